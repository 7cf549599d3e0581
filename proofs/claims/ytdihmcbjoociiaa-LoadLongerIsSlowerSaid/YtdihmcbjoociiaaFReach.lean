/- The contracts of Predict and Reach. -/
import Derived.Test.YtdihmcbjoociiaaFRPred
import Derived.Test.YtdihmcbjoociiaaFChkR
import Derived.Test.YtdihmcbjoociiaaFSearch
namespace Go.Proofs.Ytdihmcbjoociiaa
open Go.RowKit

theorem predE_err {l : List RaceV} {way s e : Int} (h : racesE l = e) (he : e ≠ 0) : predE l way s = e ∧ predV l way s = 0 := by
  have h1 : predE l way s = e := by unfold predE; rw [if_neg (by rw [h]; exact he)]; exact h
  exact ⟨h1, by unfold predV; rw [if_neg (by rw [h1]; exact he)]⟩
theorem predE_no {l : List RaceV} {way s : Int} (h : racesE l = 0) (hn : ¬ ((1 ≤ way ∧ way ≤ 10000000) ∧ 0 ≤ s ∧ s ≤ 200)) : predE l way s = 9 ∧ predV l way s = 0 := by
  have h1 : predE l way s = 9 := by unfold predE; rw [if_pos h, if_neg hn]
  exact ⟨h1, by unfold predV; rw [if_neg (by rw [h1]; decide)]⟩
theorem predE_ok {l : List RaceV} {way s : Int} (h : racesE l = 0) (hn : (1 ≤ way ∧ way ≤ 10000000) ∧ 0 ≤ s ∧ s ≤ 200) : predE l way s = 0 ∧ predV l way s = predR s way ⟨0, 0⟩ l := by
  have h1 : predE l way s = 0 := by unfold predE; rw [if_pos h, if_pos hn]
  exact ⟨h1, by unfold predV; rw [if_pos h1]⟩

set_option maxHeartbeats 800000 in
theorem Predict_any (ao : Option Addr) (cap : Nat) (l : List RaceV) (hl : (l.length : Int) ≤ 9223372036854775807) (way s : Int) (w : World) (hs : PairsAt w ao l) {v E : Int} (hE : Hid (predE l way s = E)) (hv : Hid (predV l way s = v)) :
    Calls Try.prog 45 #[.slice ao l.length cap, .int .i64 way, .int .i64 s] w fun e w' => e = .returned (.tuple #[.int .i64 v, .int .i64 E]) ∧ w.grownBy w' none := by
  obtain ⟨re, hre⟩ : ∃ e, racesE l = e := ⟨_, rfl⟩
  have HRE := Lib.hid hre
  have HS := Lib.hid hs
  by_cases h0 : re = 0
  · subst h0
    have HOK : Hid (RacesOk l) := races_ok hre
    by_cases h1 : 1 ≤ way ∧ way ≤ 10000000
    · by_cases h2 : 0 ≤ s ∧ s ≤ 200
      · obtain ⟨p1, p2⟩ := predE_ok hre ⟨h1, h2⟩
        obtain rfl : E = 0 := hE.out.symm.trans p1
        have HV : Hid (predR s way ⟨0, 0⟩ l = v) := p2.symm.trans hv.out
        have H1 := Lib.hid h1; have H2 := Lib.hid h2
        clear hE hv hre hs p1 p2 h1 h2
        go_enter Try.func45, Try.ntmps45
        go_wp2_with fail
        refine (checkRaces_any ao cap l hl w HS.out HRE).mono ?_; rintro e w1 ⟨rfl, hg1⟩
        have HG := Lib.hid hg1
        clear hg1
        go_wp2_with (first
          | (go_at_call_of 78 (Value.int IntKind.i64 10000000); refine (fwithin_yes _ _ _ (by have := H1.out; omega) _).mono ?_; rintro e w2 ⟨rfl, rfl⟩)
          | (go_at_call_of 78 (Value.int IntKind.i64 200); refine (fwithin_yes _ _ _ (by have := H2.out; omega) _).mono ?_; rintro e w2 ⟨rfl, rfl⟩)
          | (go_at_call 103; refine (predict_is ao cap l HOK way s H1 H2 _ (HS.out.grown HG.out) HV).mono ?_; rintro e w2 ⟨rfl, hg2⟩))
        go_ret2
        exact ⟨rfl, grown_trans HG.out (by assumption)⟩
      · obtain ⟨p1, p2⟩ := predE_no (way := way) (s := s) hre (fun h => h2 h.2)
        obtain rfl : E = 9 := hE.out.symm.trans p1
        obtain rfl : v = 0 := hv.out.symm.trans p2
        have H1 := Lib.hid h1; have H2 := Lib.hid h2
        clear hE hv hre hs p1 p2 h1 h2
        go_enter Try.func45, Try.ntmps45
        go_wp2_with fail
        refine (checkRaces_any ao cap l hl w HS.out HRE).mono ?_; rintro e w1 ⟨rfl, hg1⟩
        have HG := Lib.hid hg1
        clear hg1
        go_wp2_with (first
          | (go_at_call_of 78 (Value.int IntKind.i64 10000000); refine (fwithin_yes _ _ _ (by have := H1.out; omega) _).mono ?_; rintro e w2 ⟨rfl, rfl⟩)
          | (go_at_call_of 78 (Value.int IntKind.i64 200); refine (fwithin_no _ _ _ (by have := H2.out; omega) _).mono ?_; rintro e w2 ⟨rfl, rfl⟩))
        go_ret2
        exact ⟨rfl, HG.out⟩
    · obtain ⟨p1, p2⟩ := predE_no (way := way) (s := s) hre (fun h => h1 h.1)
      obtain rfl : E = 9 := hE.out.symm.trans p1
      obtain rfl : v = 0 := hv.out.symm.trans p2
      have H1 := Lib.hid h1
      clear hE hv hre hs p1 p2 h1
      go_enter Try.func45, Try.ntmps45
      go_wp2_with fail
      refine (checkRaces_any ao cap l hl w HS.out HRE).mono ?_; rintro e w1 ⟨rfl, hg1⟩
      have HG := Lib.hid hg1
      clear hg1
      go_wp2_with (go_at_call 78; refine (fwithin_no _ _ _ (by have := H1.out; omega) _).mono ?_; rintro e w2 ⟨rfl, rfl⟩)
      go_ret2
      exact ⟨rfl, HG.out⟩
  · obtain ⟨p1, p2⟩ := predE_err (way := way) (s := s) hre h0
    obtain rfl : E = re := hE.out.symm.trans p1
    obtain rfl : v = 0 := hv.out.symm.trans p2
    have hne : (E != 0) = true := by simpa using h0
    clear hE hv hre hs p1 p2 h0
    go_enter Try.func45, Try.ntmps45
    go_wp2_with fail
    refine (checkRaces_any ao cap l hl w HS.out HRE).mono ?_; rintro e w1 ⟨rfl, hg1⟩
    have HG := Lib.hid hg1
    clear hg1
    go_wp2_with fail
    go_ret2
    exact ⟨rfl, HG.out⟩

/-- What Reach returns, how many ways take no more seconds being known. -/
def reachV (m : Nat) : Int := m
def reachR (m : Nat) : Int := if m = 0 then 4 else 0

set_option maxHeartbeats 1600000 in
theorem reach1_is (i : Nat) (hi : i < 10000000) (bl bs bq : Nat) (ao : Option Addr) (cap : Nat) (l : List RaceV) (hok : Hid (RacesOk l)) (s q : Int) (hsl : Hid (0 ≤ s ∧ s ≤ 200)) (W : World) (hs : PairsAt W ao l)
    (cl : W.cell? ⟨bl, 0, none⟩ = some (.slice ao l.length cap)) (cs : W.cell? ⟨bs, 0, none⟩ = some (.int .i64 s)) (cq : W.cell? ⟨bq, 0, none⟩ = some (.int .i64 q)) :
    Calls Try.prog 105 (#[.int .i64 i] ++ #[.pointer (some ⟨bl, 0, none⟩), .pointer (some ⟨bs, 0, none⟩), .pointer (some ⟨bq, 0, none⟩)]) W fun e w' => e = .returned (.bool (slow l s q i)) ∧ W.grownBy w' none := by
  have HI : Hid (1 ≤ (i : Int) + 1 ∧ (i : Int) + 1 ≤ 10000000) := by show _ ∧ _; omega
  obtain ⟨v, hv⟩ : ∃ v, predR s ((i : Int) + 1) ⟨0, 0⟩ l = v := ⟨_, rfl⟩
  have HV := Lib.hid hv
  have HR : Hid (slow l s q i = decide (q < v)) := by show _ = _; unfold slow; rw [hv]
  have HC : Hid (∀ V : World, (World.grownBy W V none ∧ World.cell? V ⟨bl, 0, none⟩ = some (.slice ao l.length cap) ∧ World.cell? V ⟨bs, 0, none⟩ = some (.int .i64 s) ∧ World.cell? V ⟨bq, 0, none⟩ = some (.int .i64 q)) → Calls Try.prog 103 #[.slice ao l.length cap, .int .i64 ((i : Int) + 1), .int .i64 s] V fun e w' => e = .returned (.int .i64 v) ∧ V.grownBy w' none) := fun V hV => predict_is ao cap l hok ((i : Int) + 1) s HI hsl V (hs.grown hV.1) HV
  have HSTEP : Hid (∀ V V' : World, (World.grownBy W V none ∧ World.cell? V ⟨bl, 0, none⟩ = some (.slice ao l.length cap) ∧ World.cell? V ⟨bs, 0, none⟩ = some (.int .i64 s) ∧ World.cell? V ⟨bq, 0, none⟩ = some (.int .i64 q)) → V.grownBy V' none → (World.grownBy W V' none ∧ World.cell? V' ⟨bl, 0, none⟩ = some (.slice ao l.length cap) ∧ World.cell? V' ⟨bs, 0, none⟩ = some (.int .i64 s) ∧ World.cell? V' ⟨bq, 0, none⟩ = some (.int .i64 q))) := fun V V' h g => ⟨grown_trans h.1 g, grown_cell g h.2.1, grown_cell g h.2.2.1, grown_cell g h.2.2.2⟩
  have HSD : Hid (World.grownBy W W.drew none ∧ World.cell? W.drew ⟨bl, 0, none⟩ = some (.slice ao l.length cap) ∧ World.cell? W.drew ⟨bs, 0, none⟩ = some (.int .i64 s) ∧ World.cell? W.drew ⟨bq, 0, none⟩ = some (.int .i64 q)) := HSTEP.out W _ ⟨grown_refl _ _, cl, cs, cq⟩ (grown_drewN _ _ 1)
  have r1 : IntKind.i64.wrap ((i : Int) + 1) = (i : Int) + 1 := IntWalk.i64_in _ (by omega)
  clear hv hs cl cs cq hok
  go_enter Try.func105, Try.ntmps105
  go_wp2_with fail
  go_region_held3 (fun V => (World.grownBy W V none ∧ World.cell? V ⟨bl, 0, none⟩ = some (.slice ao l.length cap) ∧ World.cell? V ⟨bs, 0, none⟩ = some (.int .i64 s) ∧ World.cell? V ⟨bq, 0, none⟩ = some (.int .i64 q))) (first | exact HSD.out | (refine HSTEP.out _ _ ?_ (by assumption) <;> assumption)) (first
    | (go_at_call 103; (with_reducible refine (HC.out _ (by assumption)).mono ?_); rintro x w7 ⟨rfl, hg7⟩))
  all_goals
    rename_i hfin
    go_wp2_with fail
    go_ret
    exact ⟨ret_bool (by rw [HR.out]), hfin.1⟩

set_option maxRecDepth 100000 in
set_option maxHeartbeats 1600000 in
theorem reach_ok (ao : Option Addr) (cap : Nat) (l : List RaceV) (hl : (l.length : Int) ≤ 9223372036854775807) (q s : Int) (h : Hid (reachE0 l q s = 0)) {m : Nat} (hm : Hid (TurnsAt (slow l s q) 10000000 m)) (w : World) (hs : PairsAt w ao l) :
    Calls Try.prog 47 #[.slice ao l.length cap, .int .i64 q, .int .i64 s] w fun e w' => e = .returned (.tuple #[.int .i64 (reachV m), .int .i64 (reachR m)]) ∧ w.grownBy w' none := by
  have hr : racesE l = 0 := by
    have := h.out
    unfold reachE0 at this
    split at this
    · assumption
    · omega
  have hh : (1 ≤ q ∧ q ≤ 1000000000) ∧ 0 ≤ s ∧ s ≤ 200 := by
    have := h.out
    unfold reachE0 at this
    rw [if_pos hr] at this
    split at this
    · assumption
    · omega
  have HRE := Lib.hid hr
  have HOK : Hid (RacesOk l) := races_ok hr
  have H1 : Hid (1 ≤ q ∧ q ≤ 1000000000) := hh.1
  have H2 : Hid (0 ≤ s ∧ s ≤ 200) := hh.2
  have hmf : ∀ (fn : Fn) (first cap : Array Value) (w : World), (Instr.makeFunc fn first cap).run Try.prog w = .ok (.func fn first cap) w := fun _ _ _ _ => rfl
  have eg : ∀ args w, (callFunc 105 args).run Try.prog w = .ok (.enter 105 args) w := enters_of Try.func105 (by kernel_rfl) rfl
  obtain ⟨w0, hw0⟩ : ∃ w0, w0 = ((w.alloc (.cells #[.slice ao l.length cap] 54)).alloc (.cells #[.int .i64 q] 3)).alloc (.cells #[.int .i64 s] 3) := ⟨_, rfl⟩
  have K0 : Hid (w.grownBy w0 none) := by show World.grownBy _ _ _; rw [hw0]; exact grown_trans (grown_trans (World.grownBy_alloc _ _ _) (World.grownBy_alloc _ _ _)) (World.grownBy_alloc _ _ _)
  have cl : w0.cell? ⟨w.heap.size, 0, none⟩ = some (.slice ao l.length cap) := by rw [hw0]; go_simp
  have cq : w0.cell? ⟨w.heap.size + 1, 0, none⟩ = some (.int .i64 q) := by rw [hw0]; go_simp
  have cs : w0.cell? ⟨w.heap.size + 1 + 1, 0, none⟩ = some (.int .i64 s) := by rw [hw0]; go_simp
  have HS : Hid (PairsAt w0 ao l) := hs.grown K0.out
  have hml : (m : Int) ≤ 10000000 := by have := hm.out.1; omega
  clear hh h hr hs
  go_enter Try.func47, Try.ntmps47
  go_wp2_with fail
  rw [← hw0]
  clear hw0
  refine (checkRaces_any ao cap l hl w0 HS.out HRE).mono ?_; rintro e w1 ⟨rfl, hg1⟩
  have HS1 := Lib.hid (HS.out.grown hg1)
  have K1 := Lib.hid (grown_trans K0.out hg1)
  have cl1 := grown_cell hg1 cl; have cq1 := grown_cell hg1 cq; have cs1 := grown_cell hg1 cs
  clear hg1 cl cq cs HS K0
  go_wp2_with (first
    | (go_at_call_of 78 (Value.int IntKind.i64 1000000000); refine (fwithin_yes _ _ _ (by have := H1.out; omega) _).mono ?_; rintro e w2 ⟨rfl, rfl⟩)
    | (go_at_call_of 78 (Value.int IntKind.i64 200); refine (fwithin_yes _ _ _ (by have := H2.out; omega) _).mono ?_; rintro e w2 ⟨rfl, rfl⟩))
  have hsr := search_is 105 #[.pointer (some ⟨w.heap.size, 0, none⟩), .pointer (some ⟨w.heap.size + 1 + 1, 0, none⟩), .pointer (some ⟨w.heap.size + 1, 0, none⟩)] 10000000 (slow l s q) m w1 eg (by omega)
    (fun V i hg hi => reach1_is i hi _ _ _ ao cap l HOK s q H2 V (HS1.out.grown hg) (grown_cell hg cl1) (grown_cell hg cs1) (grown_cell hg cq1)) hm
  refine hsr.mono ?_; rintro e w2 ⟨rfl, hg2⟩
  have K2 := Lib.hid (grown_trans K1.out hg2)
  clear hsr hg2 cl1 cq1 cs1 HS1 K1
  by_cases h0 : m = 0
  · subst h0
    go_wp2_with fail
    go_ret2
    exact ⟨rfl, K2.out⟩
  · have HR : Hid (reachR m = 0) := by show _ = _; unfold reachR; rw [if_neg h0]
    have h0' : ¬ (m : Int) = 0 := by omega
    clear h0
    go_wp2_with fail
    go_ret2
    exact ⟨by rw [HR.out]; rfl, K2.out⟩

set_option maxHeartbeats 800000 in
theorem reach_no (ao : Option Addr) (cap : Nat) (l : List RaceV) (hl : (l.length : Int) ≤ 9223372036854775807) (q s : Int) {E : Int} (h : Hid (reachE0 l q s = E)) (hE : ¬ E = 0) (w : World) (hs : PairsAt w ao l) :
    Calls Try.prog 47 #[.slice ao l.length cap, .int .i64 q, .int .i64 s] w fun e w' => e = .returned (.tuple #[.int .i64 0, .int .i64 E]) ∧ w.grownBy w' none := by
  obtain ⟨w0, hw0⟩ : ∃ w0, w0 = ((w.alloc (.cells #[.slice ao l.length cap] 54)).alloc (.cells #[.int .i64 q] 3)).alloc (.cells #[.int .i64 s] 3) := ⟨_, rfl⟩
  have K0 : Hid (w.grownBy w0 none) := by show World.grownBy _ _ _; rw [hw0]; exact grown_trans (grown_trans (World.grownBy_alloc _ _ _) (World.grownBy_alloc _ _ _)) (World.grownBy_alloc _ _ _)
  have cl : w0.cell? ⟨w.heap.size, 0, none⟩ = some (.slice ao l.length cap) := by rw [hw0]; go_simp
  have cq : w0.cell? ⟨w.heap.size + 1, 0, none⟩ = some (.int .i64 q) := by rw [hw0]; go_simp
  have cs : w0.cell? ⟨w.heap.size + 1 + 1, 0, none⟩ = some (.int .i64 s) := by rw [hw0]; go_simp
  have HS : Hid (PairsAt w0 ao l) := hs.grown K0.out
  obtain ⟨re, hre⟩ : ∃ e, racesE l = e := ⟨_, rfl⟩
  have HRE := Lib.hid hre
  have p := h.out
  unfold reachE0 at p
  rw [hre] at p
  clear h hs hre
  by_cases h0 : re = 0
  · rw [if_pos h0] at p
    subst h0
    by_cases h1 : 1 ≤ q ∧ q ≤ 1000000000
    · have h2 : ¬ (0 ≤ s ∧ s ≤ 200) := fun h2 => by
        rw [if_pos ⟨h1, h2⟩] at p; exact hE p.symm
      rw [if_neg (fun h => h2 h.2)] at p
      subst p
      have H1 := Lib.hid h1; have H2 := Lib.hid h2
      clear h1 h2 hE
      go_enter Try.func47, Try.ntmps47
      go_wp2_with fail
      rw [← hw0]
      clear hw0
      refine (checkRaces_any ao cap l hl w0 HS.out HRE).mono ?_; rintro e w1 ⟨rfl, hg1⟩
      have K1 := Lib.hid (grown_trans K0.out hg1)
      have cl1 := grown_cell hg1 cl; have cq1 := grown_cell hg1 cq; have cs1 := grown_cell hg1 cs
      clear hg1 cl cq cs HS K0
      go_wp2_with (first
        | (go_at_call_of 78 (Value.int IntKind.i64 1000000000); refine (fwithin_yes _ _ _ (by have := H1.out; omega) _).mono ?_; rintro e w2 ⟨rfl, rfl⟩)
        | (go_at_call_of 78 (Value.int IntKind.i64 200); refine (fwithin_no _ _ _ (by have := H2.out; omega) _).mono ?_; rintro e w2 ⟨rfl, rfl⟩))
      go_ret2
      exact ⟨rfl, K1.out⟩
    · rw [if_neg (fun h => h1 h.1)] at p
      subst p
      have H1 := Lib.hid h1
      clear h1 hE
      go_enter Try.func47, Try.ntmps47
      go_wp2_with fail
      rw [← hw0]
      clear hw0
      refine (checkRaces_any ao cap l hl w0 HS.out HRE).mono ?_; rintro e w1 ⟨rfl, hg1⟩
      have K1 := Lib.hid (grown_trans K0.out hg1)
      have cl1 := grown_cell hg1 cl; have cq1 := grown_cell hg1 cq; have cs1 := grown_cell hg1 cs
      clear hg1 cl cq cs HS K0
      go_wp2_with (go_at_call 78; refine (fwithin_no _ _ _ (by have := H1.out; omega) _).mono ?_; rintro e w2 ⟨rfl, rfl⟩)
      go_ret2
      exact ⟨rfl, K1.out⟩
  · rw [if_neg h0] at p
    subst p
    have hne : (re != 0) = true := by simpa using h0
    clear h0 hE
    go_enter Try.func47, Try.ntmps47
    go_wp2_with fail
    rw [← hw0]
    clear hw0
    refine (checkRaces_any ao cap l hl w0 HS.out HRE).mono ?_; rintro e w1 ⟨rfl, hg1⟩
    have K1 := Lib.hid (grown_trans K0.out hg1)
    clear hg1 cl cq cs HS K0
    go_wp2_with fail
    go_ret2
    exact ⟨rfl, K1.out⟩

end Go.Proofs.Ytdihmcbjoociiaa
