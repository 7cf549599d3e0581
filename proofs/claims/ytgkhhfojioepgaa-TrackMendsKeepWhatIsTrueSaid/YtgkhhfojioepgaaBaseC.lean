/- Texts that all laws of this seat use, one behind the other. -/
import Derived.Test.YtgkhhfojioepgaaBaseB
import Derived.RangeFuncNested
import Derived.RangeFuncBound
import Derived.RangeFuncCalls
import Derived.RangeFuncLeaves
import Derived.RangeFuncBox
import Derived.Shelf.Abstract
import Derived.Shelf.RegionOpen
import Derived.OwnWalkIn
import Derived.TacticsInMore
import Derived.LoopNIn
import Derived.LoopIn
import Derived.Deep.RegionHeld3
import Derived.Test.YtgkhhfojioepgaaBaseA
import Derived.Deep.OwnRows
import Derived.OwnWalk
import Derived.Deep.CutBlock
import Derived.Deep.DeepCutAuto
import Derived.Maps.AppendAt
namespace Go.Proofs.Ytgkhhfojioepgaa
open Go.RowKit
set_option linter.unusedSimpArgs false
set_option linter.unusedVariables false

theorem smpsE_samp {st : Int} {l : List Smp} {k : Nat} (h : k < l.length) : smpsE st (prevT l k) (l.drop k) = if sampF st (prevT l k) l[k] = 0 then smpsE st (prevT l (k + 1)) (l.drop (k + 1)) else sampF st (prevT l k) l[k] := by
  by_cases he : early (prevT l k) l[k].t
  · rw [smpsE_early h he, sampF, if_pos he, if_neg (by omega)]
  · by_cases hi : smpIn st l[k]
    · rw [smpsE_next h he hi, sampF, if_neg he, if_pos hi, if_pos rfl]
    · rw [smpsE_out h he hi, sampF, if_neg he, if_neg hi, if_neg (by omega)]
theorem sampF_pos {st : Int} {l : List Smp} {k : Nat} (h : k < l.length) (hp : ∀ p, prevT l k = some p → 0 ≤ p) (h0 : sampF st (prevT l k) l[k] = 0) : ∀ p, prevT l (k + 1) = some p → 0 ≤ p := by
  intro p hq
  rw [prevT_succ, List.getElem?_eq_getElem h] at hq
  have hq2 : l[k].t = p := by simpa using hq
  have hne : ¬ early (prevT l k) l[k].t := by
    intro he
    rw [sampF, if_pos he] at h0
    omega
  cases hb : prevT l k with
  | none => rw [hb] at hne; unfold early at hne; simp only [ne_eq, Decidable.not_not] at hne; omega
  | some q => rw [hb] at hne; have := hp q hb; unfold early at hne; simp only at hne; omega
theorem lapsE_lapF {sp : Int} {l : List LapV} {k : Nat} (h : k < l.length) : lapsE sp ((prevE l k).getD 0) (l.drop k) = if lapF sp (prevE l k) l[k] = 0 then lapsE sp ((prevE l (k + 1)).getD 0) (l.drop (k + 1)) else lapF sp (prevE l k) l[k] := by
  rw [lapsE_at h]
  have e : (prevE l (k + 1)).getD 0 = l[k].to_ := by rw [prevE_succ, List.getElem?_eq_getElem h]; rfl
  rw [e]
  unfold lapF
  by_cases h1 : l[k].fr < 0 ∨ l[k].to_ ≤ l[k].fr ∨ sp < l[k].to_
  · rw [if_pos h1, if_pos h1, if_neg (by omega)]
  · rw [if_neg h1, if_neg h1]
    have hs : l[k].fr < (prevE l k).getD 0 ↔ soon (prevE l k) l[k].fr := by
      cases prevE l k with
      | none => simp only [Option.getD_none, soon, iff_false]; omega
      | some q => rfl
    by_cases h2 : soon (prevE l k) l[k].fr
    · rw [if_pos (hs.2 h2), if_pos h2, if_neg (by omega)]
    · rw [if_neg (fun h => h2 (hs.1 h)), if_neg h2]
      by_cases h3 : lapNameB l[k].name = true
      · rw [if_pos h3, if_pos h3, if_pos rfl]
      · rw [if_neg h3, if_neg h3, if_neg (by omega)]

theorem rsample_any (nm : ByteArray) (sp st : Int) (so : Option Addr) (sc : Nat) (ss : List Smp) (lo : Option Addr) (lc : Nat) (ls : List LapV) (to_ : Option Addr) (tc : Nat) (ts : List ByteArray) (s0 : 0 ≤ st) (s1 : st ≤ 86399999999) (hl : (ss.length : Int) ≤ 9223372036854775807) (k : Nat) (hlt : k < ss.length) (w : World) (hs : SmpsAt w so ss) (hp : Hid (∀ p, prevT ss k = some p → 0 ≤ p)) {E : Int} (hE : Hid (sampF st (prevT ss k) ss[k] = E)) :
    Calls Try.prog 122 #[.agg #[.string nm, .int .i64 sp, .int .i64 st, .slice so ss.length sc, .slice lo ls.length lc, .slice to_ ts.length tc], .int .i64 k] w fun e w' => e = .returned (.int .i64 E) ∧ w.grownBy w' none := by
  have hne : ss ≠ [] := by intro e; rw [e] at hlt; simp at hlt
  match so, hs with
  | none, hs => exact absurd (hs.nil rfl) hne
  | some ⟨b, off, spt⟩, hs =>
    have h := hs.spot _ rfl hne
    simp only at h
    subst h
    exact rsample_some nm sp st b off sc ss lo lc ls to_ tc ts s0 s1 hl k hlt w hs hp hE
theorem rlap_any (nm : ByteArray) (sp st : Int) (so : Option Addr) (sc : Nat) (ss : List Smp) (lo : Option Addr) (lc : Nat) (ls : List LapV) (to_ : Option Addr) (tc : Nat) (ts : List ByteArray) (sl : (ss.length : Int) ≤ 9223372036854775807) (ll : (ls.length : Int) ≤ 9223372036854775807) (k : Nat) (hlt : k < ls.length) (w : World) (hs : SmpsAt w so ss) (hl : LapsAt w lo ls) {SPN : Int} (hsp : Hid (spanL ss = SPN)) {E : Int} (hE : Hid (lapF SPN (prevE ls k) ls[k] = E)) :
    Calls Try.prog 123 #[.agg #[.string nm, .int .i64 sp, .int .i64 st, .slice so ss.length sc, .slice lo ls.length lc, .slice to_ ts.length tc], .int .i64 k] w fun e w' => e = .returned (.int .i64 E) ∧ w.grownBy w' none := by
  have hne : ls ≠ [] := by intro e; rw [e] at hlt; simp at hlt
  match lo, hl with
  | none, hl => exact absurd (hl.nil rfl) hne
  | some ⟨b, off, spt⟩, hl =>
    have h := hl.spot _ rfl hne
    simp only at h
    subst h
    exact rlap_some nm sp st so sc ss b off lc ls to_ tc ts sl ll k hlt w hs hl hsp hE

set_option maxRecDepth 100000 in
set_option maxHeartbeats 6400000 in
theorem rcheck_any (a : Act) (w : World) (ha : ActAt w a) {E : Int} (hE : Hid (chkE a = E)) :
    Calls Try.prog 58 #[a.val] w fun e w' => e = .returned (.int .i64 E) ∧ w.grownBy w' none := by
  obtain ⟨nm, sp, st, so, sc, ss, lo, lc, ls, to_, tc, ts⟩ := a
  obtain ⟨ns, sl, ll, tl, hs, hl, ht⟩ := ha
  have CN := @chkE_name ⟨nm, sp, st, so, sc, ss, lo, lc, ls, to_, tc, ts⟩
  have CS := @chkE_sport ⟨nm, sp, st, so, sc, ss, lo, lc, ls, to_, tc, ts⟩
  have CT := @chkE_start ⟨nm, sp, st, so, sc, ss, lo, lc, ls, to_, tc, ts⟩
  have CZ := @chkE_size ⟨nm, sp, st, so, sc, ss, lo, lc, ls, to_, tc, ts⟩
  have CR := @chkE_rest ⟨nm, sp, st, so, sc, ss, lo, lc, ls, to_, tc, ts⟩
  rw [hE.out] at CN CS CT CZ CR
  simp only [Act.val] at *
  have NS := Lib.hid ns; have SL := Lib.hid sl; have LL := Lib.hid ll; have HS := Lib.hid hs; have HL := Lib.hid hl; have HT := Lib.hid ht
  clear ns hs hl ht hE
  cases hn : nameB nm with
  | false =>
    have HV : Hid (E = 8) := CN hn
    have HN := Lib.hid hn
    clear CN CS CT CZ CR hn
    go_enter Try.func58, Try.ntmps58
    go_wp2_with fail
    refine (rname_is nm NS.out _ HN).mono ?_; rintro e w1 ⟨rfl, rfl⟩
    go_wp2_with fail
    go_ret
    exact ⟨ret_int HV.out.symm, World.grownBy_alloc _ _ _⟩
  | true =>
    have HN := Lib.hid hn
    by_cases a1 : sp < 1
    · have HV : Hid (E = 7) := CS hn (.inl a1)
      clear CN CS CT CZ CR hn
      go_enter Try.func58, Try.ntmps58
      go_wp2_with fail
      refine (rname_is nm NS.out _ HN).mono ?_; rintro e w1 ⟨rfl, rfl⟩
      go_wp2_with fail
      refine (out_yes _ _ _ (.inl a1) _).mono ?_; rintro e w1 ⟨rfl, rfl⟩
      go_wp2_with fail
      go_ret
      exact ⟨ret_int HV.out.symm, World.grownBy_alloc _ _ _⟩
    by_cases a2 : 5 < sp
    · have HV : Hid (E = 7) := CS hn (.inr a2)
      clear CN CS CT CZ CR hn
      go_enter Try.func58, Try.ntmps58
      go_wp2_with fail
      refine (rname_is nm NS.out _ HN).mono ?_; rintro e w1 ⟨rfl, rfl⟩
      go_wp2_with fail
      refine (out_yes _ _ _ (.inr a2) _).mono ?_; rintro e w1 ⟨rfl, rfl⟩
      go_wp2_with fail
      go_ret
      exact ⟨ret_int HV.out.symm, World.grownBy_alloc _ _ _⟩
    by_cases a3 : st < 0
    · have HV : Hid (E = 9) := CT hn ⟨by omega, by omega⟩ (.inl a3)
      clear CN CS CT CZ CR hn
      go_enter Try.func58, Try.ntmps58
      go_wp2_with fail
      refine (rname_is nm NS.out _ HN).mono ?_; rintro e w1 ⟨rfl, rfl⟩
      go_wp2_with fail
      refine (out_no _ _ _ (by omega) (by omega) _).mono ?_; rintro e w1 ⟨rfl, rfl⟩
      go_wp2_with fail
      refine (out_yes _ _ _ (.inl a3) _).mono ?_; rintro e w1 ⟨rfl, rfl⟩
      go_wp2_with fail
      go_ret
      exact ⟨ret_int HV.out.symm, World.grownBy_alloc _ _ _⟩
    by_cases a4 : 86399999999 < st
    · have HV : Hid (E = 9) := CT hn ⟨by omega, by omega⟩ (.inr a4)
      clear CN CS CT CZ CR hn
      go_enter Try.func58, Try.ntmps58
      go_wp2_with fail
      refine (rname_is nm NS.out _ HN).mono ?_; rintro e w1 ⟨rfl, rfl⟩
      go_wp2_with fail
      refine (out_no _ _ _ (by omega) (by omega) _).mono ?_; rintro e w1 ⟨rfl, rfl⟩
      go_wp2_with fail
      refine (out_yes _ _ _ (.inr a4) _).mono ?_; rintro e w1 ⟨rfl, rfl⟩
      go_wp2_with fail
      go_ret
      exact ⟨ret_int HV.out.symm, World.grownBy_alloc _ _ _⟩
    by_cases a5 : 20000 < (ss.length : Int)
    · have HV : Hid (E = 3) := CZ hn ⟨by omega, by omega⟩ ⟨by omega, by omega⟩ (.inl a5)
      clear CN CS CT CZ CR hn
      go_enter Try.func58, Try.ntmps58
      go_wp2_with fail
      refine (rname_is nm NS.out _ HN).mono ?_; rintro e w1 ⟨rfl, rfl⟩
      go_wp2_with fail
      refine (out_no _ _ _ (by omega) (by omega) _).mono ?_; rintro e w1 ⟨rfl, rfl⟩
      go_wp2_with fail
      refine (out_no _ _ _ (by omega) (by omega) _).mono ?_; rintro e w1 ⟨rfl, rfl⟩
      go_wp2_with fail
      go_ret
      exact ⟨ret_int HV.out.symm, World.grownBy_alloc _ _ _⟩
    by_cases a6 : 200 < (ls.length : Int)
    · have HV : Hid (E = 3) := CZ hn ⟨by omega, by omega⟩ ⟨by omega, by omega⟩ (.inr (.inl a6))
      clear CN CS CT CZ CR hn
      go_enter Try.func58, Try.ntmps58
      go_wp2_with fail
      refine (rname_is nm NS.out _ HN).mono ?_; rintro e w1 ⟨rfl, rfl⟩
      go_wp2_with fail
      refine (out_no _ _ _ (by omega) (by omega) _).mono ?_; rintro e w1 ⟨rfl, rfl⟩
      go_wp2_with fail
      refine (out_no _ _ _ (by omega) (by omega) _).mono ?_; rintro e w1 ⟨rfl, rfl⟩
      go_wp2_with fail
      go_ret
      exact ⟨ret_int HV.out.symm, World.grownBy_alloc _ _ _⟩
    by_cases a7 : 20 < (ts.length : Int)
    · have HV : Hid (E = 3) := CZ hn ⟨by omega, by omega⟩ ⟨by omega, by omega⟩ (.inr (.inr a7))
      clear CN CS CT CZ CR hn
      go_enter Try.func58, Try.ntmps58
      go_wp2_with fail
      refine (rname_is nm NS.out _ HN).mono ?_; rintro e w1 ⟨rfl, rfl⟩
      go_wp2_with fail
      refine (out_no _ _ _ (by omega) (by omega) _).mono ?_; rintro e w1 ⟨rfl, rfl⟩
      go_wp2_with fail
      refine (out_no _ _ _ (by omega) (by omega) _).mono ?_; rintro e w1 ⟨rfl, rfl⟩
      go_wp2_with fail
      go_ret
      exact ⟨ret_int HV.out.symm, World.grownBy_alloc _ _ _⟩
    have hr := CR hn ⟨by omega, by omega⟩ ⟨by omega, by omega⟩ ⟨by omega, by omega, by omega⟩
    clear CN CS CT CZ CR hn
    have s0 : 0 ≤ st := by omega
    have s1 : st ≤ 86399999999 := by omega
    have sl2 : (ss.length : Int) ≤ 20000 := by omega
    have ll2 : (ls.length : Int) ≤ 200 := by omega
    have tl2 : (ts.length : Int) ≤ 20 := by omega
    obtain ⟨SPN, hsp⟩ : ∃ x, spanL ss = x := ⟨_, rfl⟩
    rw [hsp] at hr
    have HSP := Lib.hid hsp
    have HR := Lib.hid hr
    have hstep : ∀ W W' : World, (World.grownBy w W none ∧ World.cell? W ⟨w.heap.size, 0, none⟩ = some (.string nm) ∧ World.cell? W ⟨w.heap.size, 1, none⟩ = some (.int .i64 sp) ∧ World.cell? W ⟨w.heap.size, 2, none⟩ = some (.int .i64 st) ∧ World.cell? W ⟨w.heap.size, 3, none⟩ = some (.slice so ss.length sc) ∧ World.cell? W ⟨w.heap.size, 4, none⟩ = some (.slice lo ls.length lc) ∧ World.cell? W ⟨w.heap.size, 5, none⟩ = some (.slice to_ ts.length tc)) → W.grownBy W' none → (World.grownBy w W' none ∧ World.cell? W' ⟨w.heap.size, 0, none⟩ = some (.string nm) ∧ World.cell? W' ⟨w.heap.size, 1, none⟩ = some (.int .i64 sp) ∧ World.cell? W' ⟨w.heap.size, 2, none⟩ = some (.int .i64 st) ∧ World.cell? W' ⟨w.heap.size, 3, none⟩ = some (.slice so ss.length sc) ∧ World.cell? W' ⟨w.heap.size, 4, none⟩ = some (.slice lo ls.length lc) ∧ World.cell? W' ⟨w.heap.size, 5, none⟩ = some (.slice to_ ts.length tc)) := fun W W' h g => ⟨grown_trans h.1 g, grown_cell g h.2.1, grown_cell g h.2.2.1, grown_cell g h.2.2.2.1, grown_cell g h.2.2.2.2.1, grown_cell g h.2.2.2.2.2.1, grown_cell g h.2.2.2.2.2.2⟩
    have HSTEP := Lib.hid hstep
    clear hr hsp hstep
    go_enter Try.func58, Try.ntmps58
    go_wp2_with fail
    refine (rname_is nm NS.out _ HN).mono ?_; rintro e w1 ⟨rfl, rfl⟩
    go_wp2_with fail
    refine (out_no _ _ _ (by omega) (by omega) _).mono ?_; rintro e w1 ⟨rfl, rfl⟩
    go_wp2_with fail
    refine (out_no _ _ _ (by omega) (by omega) _).mono ?_; rintro e w1 ⟨rfl, rfl⟩
    go_wp2_with fail
    go_loopw [42] (fun iv wr => ∃ k : Nat, k ≤ ss.length ∧ iv = .int .i64 k ∧ (World.grownBy w wr none ∧ World.cell? wr ⟨w.heap.size, 0, none⟩ = some (.string nm) ∧ World.cell? wr ⟨w.heap.size, 1, none⟩ = some (.int .i64 sp) ∧ World.cell? wr ⟨w.heap.size, 2, none⟩ = some (.int .i64 st) ∧ World.cell? wr ⟨w.heap.size, 3, none⟩ = some (.slice so ss.length sc) ∧ World.cell? wr ⟨w.heap.size, 4, none⟩ = some (.slice lo ls.length lc) ∧ World.cell? wr ⟨w.heap.size, 5, none⟩ = some (.slice to_ ts.length tc)) ∧ Hid (smpsE st none ss = smpsE st (prevT ss k) (ss.drop k)) ∧ Hid (∀ p, prevT ss k = some p → 0 ≤ p))
      (fun iv _ => ss.length - (intOf iv).toNat)
    case atStart => exact ⟨0, Nat.zero_le _, rfl, ⟨World.grownBy_alloc _ _ _, by simp, by simp, by simp, by simp, by simp, by simp⟩, by show _ = _; rfl, fun p h => by simp [prevT] at h⟩
    case round =>
      obtain ⟨k, hk, rfl, hS, hw, hp⟩ := hrel
      have HSW := Lib.hid hS
      obtain ⟨G, f0, f1, f2, f3, f4, f5⟩ := hS
      by_cases hlt : k < ss.length
      · obtain ⟨ek, hek⟩ : ∃ e, sampF st (prevT ss k) ss[k] = e := ⟨_, rfl⟩
        have hstep := smpsE_samp (st := st) hlt
        rw [hek] at hstep
        have HEK := Lib.hid hek
        have HSS := Lib.hid (HS.out.grown G)
        by_cases hz : ek = 0
        · rw [if_pos hz] at hstep
          have HW : Hid (smpsE st none ss = smpsE st (prevT ss (k + 1)) (ss.drop (k + 1))) := Lib.hid (hw.out.trans hstep)
          have HP := Lib.hid (sampF_pos hlt hp.out (hek.trans hz))
          subst hz
          clear hstep hek hw
          go_wp2_with fail
          refine (rsample_any nm sp st so sc ss lo lc ls to_ tc ts s0 s1 SL.out k hlt _ HSS.out hp HEK).mono ?_; rintro e w1 ⟨rfl, hg1⟩
          have HN1 := HSTEP.out _ _ HSW.out hg1
          clear f0 f1 f2 f3 f4 f5 G hg1
          go_wp2_with fail
          go_roundw
          case rel => exact ⟨k + 1, by omega, by go_num, HN1, HW, HP⟩
          case measure => simp [intOf]; omega
        · rw [if_neg hz] at hstep
          have HV : Hid (E = ek) := by
            show _ = _
            have h1 := hw.out.trans hstep
            rw [HR.out, if_neg (by rw [h1]; exact hz)]; exact h1
          have hne : (ek != 0) = true := by simpa using hz
          clear hstep hek hw hz
          go_wp2_with fail
          refine (rsample_any nm sp st so sc ss lo lc ls to_ tc ts s0 s1 SL.out k hlt _ HSS.out hp HEK).mono ?_; rintro e w1 ⟨rfl, hg1⟩
          have G1 := grown_trans G hg1
          clear hg1
          go_wp2_with fail
          go_ret
          exact ⟨ret_int HV.out.symm, G1⟩
      · have h0 : smpsE st none ss = 0 := hw.out.trans (smpsE_end (by omega))
        have HR2 : Hid (E = if lapsE SPN 0 ls = 0 then tagsE none ts else lapsE SPN 0 ls) := by show _ = _; rw [HR.out, if_pos h0]
        clear h0 hw hp
        obtain ⟨wo, rfl⟩ : ∃ wo : World, wo = wr := ⟨_, rfl⟩
        have HSO := HSW; clear HSW
        go_wp2_with fail
        clear f0 f1 f2 f3 f4 f5 G
        go_loopw [55] (fun iv wr => ∃ k : Nat, k ≤ ls.length ∧ iv = .int .i64 k ∧ (World.grownBy w wr none ∧ World.cell? wr ⟨w.heap.size, 0, none⟩ = some (.string nm) ∧ World.cell? wr ⟨w.heap.size, 1, none⟩ = some (.int .i64 sp) ∧ World.cell? wr ⟨w.heap.size, 2, none⟩ = some (.int .i64 st) ∧ World.cell? wr ⟨w.heap.size, 3, none⟩ = some (.slice so ss.length sc) ∧ World.cell? wr ⟨w.heap.size, 4, none⟩ = some (.slice lo ls.length lc) ∧ World.cell? wr ⟨w.heap.size, 5, none⟩ = some (.slice to_ ts.length tc)) ∧ Hid (lapsE SPN 0 ls = lapsE SPN ((prevE ls k).getD 0) (ls.drop k)))
          (fun iv _ => ls.length - (intOf iv).toNat)
        case atStart => exact ⟨0, Nat.zero_le _, rfl, HSO.out, by show _ = _; rfl⟩
        case round =>
          obtain ⟨k2, hk2, rfl, hS, hw⟩ := hrel
          have HSW := Lib.hid hS
          obtain ⟨G, f0, f1, f2, f3, f4, f5⟩ := hS
          by_cases hlt2 : k2 < ls.length
          · obtain ⟨ek, hek⟩ : ∃ e, lapF SPN (prevE ls k2) ls[k2] = e := ⟨_, rfl⟩
            have hstep := lapsE_lapF (sp := SPN) hlt2
            rw [hek] at hstep
            have HEK := Lib.hid hek
            have HSS := Lib.hid (HS.out.grown G)
            have HLL := Lib.hid (HL.out.grown G)
            by_cases hz : ek = 0
            · rw [if_pos hz] at hstep
              have HW : Hid (lapsE SPN 0 ls = lapsE SPN ((prevE ls (k2 + 1)).getD 0) (ls.drop (k2 + 1))) := Lib.hid (hw.out.trans hstep)
              subst hz
              clear hstep hek hw
              go_wp2_with fail
              refine (rlap_any nm sp st so sc ss lo lc ls to_ tc ts SL.out LL.out k2 hlt2 _ HSS.out HLL.out HSP HEK).mono ?_; rintro e w1 ⟨rfl, hg1⟩
              have HN1 := HSTEP.out _ _ HSW.out hg1
              clear f0 f1 f2 f3 f4 f5 G hg1
              go_wp2_with fail
              go_roundw
              case rel => exact ⟨k2 + 1, by omega, by go_num, HN1, HW⟩
              case measure => simp [intOf]; omega
            · rw [if_neg hz] at hstep
              have HV : Hid (E = ek) := by
                show _ = _
                have h1 := hw.out.trans hstep
                rw [HR2.out, if_neg (by rw [h1]; exact hz)]; exact h1
              have hne : (ek != 0) = true := by simpa using hz
              clear hstep hek hw hz
              go_wp2_with fail
              refine (rlap_any nm sp st so sc ss lo lc ls to_ tc ts SL.out LL.out k2 hlt2 _ HSS.out HLL.out HSP HEK).mono ?_; rintro e w1 ⟨rfl, hg1⟩
              have G1 := grown_trans G hg1
              clear hg1
              go_wp2_with fail
              go_ret
              exact ⟨ret_int HV.out.symm, G1⟩
          · have h0 : lapsE SPN 0 ls = 0 := hw.out.trans (lapsE_end (by omega))
            have HR3 : Hid (tagsE none ts = E) := by show _ = _; rw [HR2.out, if_pos h0]
            clear h0 hw
            have HTT := Lib.hid (HT.out.grown G)
            obtain ⟨wq, rfl⟩ : ∃ wq : World, wq = wr := ⟨_, rfl⟩
            go_wp2_with fail
            go_loop [68] (fun iv => ∃ k : Nat, k ≤ ts.length ∧ iv = .int .i64 k ∧ Hid (tagsE (prevG ts k) (ts.drop k) = E))
              (fun iv => ts.length - (intOf iv).toNat)
            case atStart => exact ⟨0, Nat.zero_le _, rfl, HR3⟩
            case round =>
              obtain ⟨k3, hk3, rfl, hw⟩ := hrel
              by_cases hlt3 : k3 < ts.length
              · have hne3 : ts ≠ [] := by intro e; rw [e] at hlt3; simp at hlt3
                obtain ⟨b, off, hto⟩ : ∃ b off, to_ = some ⟨b, off, none⟩ := by
                  cases hto : to_ with
                  | none => exact absurd (HTT.out.nil hto) hne3
                  | some q => obtain ⟨b, off, s3⟩ := q; have := HTT.out.spot _ hto hne3; simp only at this; subst this; exact ⟨b, off, rfl⟩
                have c0 := HTT.out.cells _ hto k3 hlt3
                simp only at c0
                have hsz := HTT.out.sizes k3 hlt3
                have HW : Hid (_ = E) := Lib.hid ((tagsE_at (e := prevG ts k3) hlt3).symm.trans hw.out)
                obtain ⟨x, hx⟩ : ∃ x, ts[k3] = x := ⟨_, rfl⟩
                rw [hx] at c0 hsz HW
                have HZ := Lib.hid hsz; have HTO := Lib.hid hto
                rw [hto] at f5
                clear hsz hw hx
                by_cases a5 : nameB x = true
                · have H5 := Lib.hid a5
                  by_cases hk0 : k3 = 0
                  · have HE : Hid (tagsE (prevG ts (k3 + 1)) (ts.drop (k3 + 1)) = E) := by
                      show _ = _; rw [← HW.out, if_pos a5, hk0]; rfl
                    have e2 : decide (0 < (k3 : Int)) = false := by simp; omega
                    have e3 : decide (0 < k3) = false := by simp; omega
                    have HK := Lib.hid hk0
                    subst hto
                    clear HW a5 hk0
                    go_wp2_with (go_at_call 120; refine (rname_is x HZ.out _ H5).mono ?_; rintro e w1 ⟨rfl, rfl⟩)
                    go_round
                    case rel => exact ⟨k3 + 1, by omega, by go_num, HE⟩
                    case measure => simp [intOf]; omega
                  · obtain ⟨i, hki⟩ : ∃ i, k3 = i + 1 := ⟨k3 - 1, by omega⟩
                    have hi : i < ts.length := by omega
                    have c1 := HTT.out.cells _ hto i hi
                    simp only at c1
                    have hpv : prevG ts k3 = some ts[i] := by rw [hki, prevG_succ, List.getElem?_eq_getElem hi]
                    obtain ⟨y, hy⟩ : ∃ y, ts[i] = y := ⟨_, rfl⟩
                    rw [hy] at c1 hpv
                    have hs1 : soonT (prevG ts k3) x = leT x y := by rw [hpv]; rfl
                    have e2 : decide (0 < (k3 : Int)) = true := by simp; omega
                    have e3 : 0 < k3 := by omega
                    have ea : ((k3 : Int) - 1).toNat = i := by omega
                    have pa : (0 : Int) ≤ (k3 : Int) - 1 := by omega
                    have pb : (1 : Int) ≤ (k3 : Int) := by omega
                    have ba : (k3 : Int) - 1 < (ts.length : Int) := by omega
                    have HKI := Lib.hid hki
                    subst hto
                    clear hki hk0 hy
                    by_cases a6 : leT x y = true
                    · have HE : Hid (E = 10) := by show _ = _; rw [← HW.out, if_pos a5, if_pos (hs1.trans a6)]
                      have f1 : (Op.bytesLess x.toList y.toList || x.toList == y.toList) = true := a6
                      clear HW a5 hpv hs1 a6
                      go_wp2_with (go_at_call 120; refine (rname_is x HZ.out _ H5).mono ?_; rintro e w1 ⟨rfl, rfl⟩)
                      go_ret
                      exact ⟨ret_int HE.out.symm, G⟩
                    · have HE : Hid (tagsE (prevG ts (k3 + 1)) (ts.drop (k3 + 1)) = E) := by
                        show _ = _; rw [← HW.out, if_pos a5, if_neg (by rw [hs1]; exact a6)]
                      have f1 : (Op.bytesLess x.toList y.toList || x.toList == y.toList) = false := by unfold leT at a6; simpa using a6
                      clear HW a5 hpv hs1 a6
                      go_wp2_with (go_at_call 120; refine (rname_is x HZ.out _ H5).mono ?_; rintro e w1 ⟨rfl, rfl⟩)
                      go_round
                      case rel => exact ⟨k3 + 1, by omega, by go_num, HE⟩
                      case measure => simp [intOf]; omega
                · have HE : Hid (E = 8) := by show _ = _; rw [← HW.out, if_neg a5]
                  have H5 : Hid (nameB x = false) := by show _ = _; simpa using a5
                  subst hto
                  clear HW a5
                  go_wp2_with (go_at_call 120; refine (rname_is x HZ.out _ H5).mono ?_; rintro e w1 ⟨rfl, rfl⟩)
                  go_ret
                  exact ⟨ret_int HE.out.symm, G⟩
              · have HV : Hid (E = 0) := by show _ = _; rw [← hw.out]; exact tagsE_end (by omega)
                go_wp2_with fail
                go_ret
                exact ⟨ret_int HV.out.symm, G⟩

end Go.Proofs.Ytgkhhfojioepgaa
namespace Go.Proofs.Ytgkhhfojioepgaa
open Go.RowKit
set_option linter.unusedSimpArgs false
set_option linter.unusedVariables false

def smpD (ss : List Smp) (k : Nat) : Smp := ss.getD k ⟨0, 0, 0, 0, 0, 0, 0⟩
theorem smpD_at {ss : List Smp} {k : Nat} (h : k < ss.length) : smpD ss k = ss[k] := by
  unfold smpD; rw [List.getD_eq_getElem?_getD, List.getElem?_eq_getElem h]; rfl

theorem smpD_plane {ss : List Smp} (hp : ∀ x ∈ ss, inPlane x) (k : Nat) : inPlane (smpD ss k) := by
  unfold smpD
  rcases Nat.lt_or_ge k ss.length with h | h
  · rw [List.getD_eq_getElem?_getD, List.getElem?_eq_getElem h]
    exact hp _ (List.getElem_mem h)
  · rw [List.getD_eq_getElem?_getD, List.getElem?_eq_none h]
    simp only [Option.getD_none]; unfold inPlane; simp only; omega

theorem grown_own {w wr w1 : World} {o : Obj} {row : Option Nat} (h : w.grownBy wr none) (g : (wr.alloc o).grownBy w1 row) (hr : ∀ k, row = some k → w.heap.size ≤ k) : w.grownBy w1 none :=
  ⟨g.os.trans h.os, g.tape.trans h.tape, g.output.trans h.output, by have := g.size; have := h.size; simp at *; omega, fun k hk _ => by
    have hs := h.size
    rw [g.block k (by simp; omega) (fun e => by have := hr k e.symm; omega), Below.heap_alloc _ _ _ (by omega)]
    exact h.block k hk (by simp)⟩

end Go.Proofs.Ytgkhhfojioepgaa
namespace Go.Proofs.Ytgkhhfojioepgaa
open Go.RowKit Go.Shelf
set_option linter.unusedSimpArgs false
set_option linter.unusedVariables false

attribute [local go_sem] Oper.semAt_some

/-- The number of a step. -/
abbrev StepNo (ss : List Smp) : Type := { k : Nat // k + 1 < ss.length }
def stepV (ss : List Smp) (k : Nat) : Value :=
  .agg #[.int .i64 k, .int .i64 (smpD ss k).t, .int .i64 (smpD ss k).x, .int .i64 (smpD ss k).y, .int .i64 (smpD ss k).z, .int .i64 (smpD ss k).p, .int .i64 (smpD ss k).q, .int .i64 (smpD ss k).s,
    .int .i64 (smpD ss (k + 1)).t, .int .i64 (smpD ss (k + 1)).x, .int .i64 (smpD ss (k + 1)).y, .int .i64 (smpD ss (k + 1)).z, .int .i64 (smpD ss (k + 1)).p, .int .i64 (smpD ss (k + 1)).q, .int .i64 (smpD ss (k + 1)).s]

/-- What a round keeps that goes on: what lay below n, and block b. -/
def KpB (n b : Nat) (W W' : World) : Prop := Below n W W' ∧ W'.heap[b]? = W.heap[b]?
theorem kpB_t {n b : Nat} {A B C : World} (h : KpB n b A B) (k : KpB n b B C) : KpB n b A C := ⟨h.1.trans k.1, k.2.trans h.2⟩

theorem steps_any (ao : Option Addr) (len cap : Nat) (w : World) :
    Calls Try.prog 111 #[.slice ao len cap] w fun e w' => e = .returned (.func (.func 148) #[] #[.pointer (some ⟨w.heap.size, 0, none⟩)]) ∧ w' = w.alloc (.cells #[.slice ao len cap] 22) := by
  have hmf : ∀ (fn : Fn) (first cap : Array Value) (w : World), (Instr.makeFunc fn first cap).run Try.prog w = .ok (.func fn first cap) w := fun _ _ _ _ => rfl
  go_enter Try.func111, Try.ntmps111
  go_wp2
  go_ret
  exact ⟨rfl, rfl⟩

set_option maxRecDepth 100000 in
set_option maxHeartbeats 4000000 in
theorem steps1_in (n : Nat) (hn : 1 ≤ n) (l Bs n₀ : Nat) (ao : Option Addr) (cap : Nat) (ss : List Smp) (hl : (ss.length : Int) ≤ 20000) (hb : ∀ a, ao = some a → ss ≠ [] → a.block < n₀) (J Jx : List (StepNo ss) → World → Prop)
    (hJ : ∀ pre W m, J pre W → J pre (W.drewN m))
    (hY : ∀ pre (x : StepNo ss) W, J pre W → pre.length < ss.length → YieldAt Fence.wide (n - 1) Try.prog l #[stepV ss x.1] W fun e W' =>
      (e = .returned (.bool true) ∧ J (pre ++ [x]) W' ∧ KpB n₀ Bs W W') ∨ (e = .returned (.bool false) ∧ Jx (pre ++ [x]) W'))
    (W : World) (hBs : W.cell? ⟨Bs, 0, none⟩ = some (.slice ao ss.length cap)) (hs : SmpsAt W ao ss) (h0 : J [] W) :
    CallsIn Fence.wide n Try.prog 148 #[.func (.yield l) #[] #[], .pointer (some ⟨Bs, 0, none⟩)] W fun e W' => (∃ v, e = .returned v) ∧
      ((∃ ys : List (StepNo ss), ys.map (·.1) = List.range (ss.length - 1) ∧ J ys W') ∨ (∃ pre : List (StepNo ss), (∃ k, k < ss.length ∧ pre.map (·.1) = List.range k) ∧ Jx pre W')) := by
  refine callsIn_of_wp Try.func148 rfl trivial ?_ rfl
  simp only [Try.ntmps148, List.size_toArray, List.length_cons, List.length_nil, Nat.reduceAdd, Nat.reduceSub, Array.replicate_succ, Array.replicate_zero, List.push_toArray, List.append_toArray, List.nil_append, List.cons_append]
  have HS := Lib.hid hs; have HB := Lib.hid hb; have HJ := Lib.hid hJ; have HY := Lib.hid hY; have HH := Lib.hid hBs
  clear hs hb hJ hY hBs
  gi_wp2
  gi_loopw [3] (fun i wr => ∃ (k m : Nat) (pre : List (StepNo ss)), Hid (m = k + 1) ∧ i = .int .i64 m ∧ Hid (k = 0 ∨ k < ss.length) ∧ Hid (pre.map (·.1) = List.range k) ∧ Hid (J pre wr) ∧ Hid (KpB n₀ Bs W wr))
    (fun i _ => ss.length - (intOf i).toNat)
  case atStart => exact ⟨0, 1, [], rfl, rfl, .inl rfl, rfl, h0, Below.refl _ _, rfl⟩
  case round =>
    obtain ⟨k, m, pre, hmk, rfl, hk, hpre, hJs, hnx⟩ := hrel
    have cB := (World.cell?_of_block (a := ⟨Bs, 0, none⟩) hnx.out.2).trans HH.out
    by_cases hlt : m < ss.length
    · have hmk1 := hmk.out
      have hne : ss ≠ [] := by intro e; rw [e] at hlt; simp at hlt
      obtain ⟨b, off, hao⟩ : ∃ b off, ao = some ⟨b, off, none⟩ := by
        cases hto : ao with
        | none => exact absurd (HS.out.nil hto) hne
        | some q => obtain ⟨b, off, s3⟩ := q; have := HS.out.spot _ hto hne; simp only at this; subst this; exact ⟨b, off, rfl⟩
      subst hao
      have hbn := HB.out _ rfl hne
      obtain ⟨p0, p1, p2, p3, p4, p5, p6⟩ := HS.out.cells _ rfl k (by omega)
      obtain ⟨q0, q1, q2, q3, q4, q5, q6⟩ := HS.out.cells _ rfl m hlt
      rw [← smpD_at (by omega : k < ss.length)] at p0 p1 p2 p3 p4 p5 p6
      rw [← smpD_at hlt] at q0 q1 q2 q3 q4 q5 q6
      simp only at p0 p1 p2 p3 p4 p5 p6 q0 q1 q2 q3 q4 q5 q6 hbn
      replace p0 := (hnx.out.1.cell (p := ⟨b, off + k * 7, none⟩) hbn).trans p0
      replace p1 := (hnx.out.1.cell (p := ⟨b, off + k * 7 + 1, none⟩) hbn).trans p1
      replace p2 := (hnx.out.1.cell (p := ⟨b, off + k * 7 + 2, none⟩) hbn).trans p2
      replace p3 := (hnx.out.1.cell (p := ⟨b, off + k * 7 + 3, none⟩) hbn).trans p3
      replace p4 := (hnx.out.1.cell (p := ⟨b, off + k * 7 + 4, none⟩) hbn).trans p4
      replace p5 := (hnx.out.1.cell (p := ⟨b, off + k * 7 + 5, none⟩) hbn).trans p5
      replace p6 := (hnx.out.1.cell (p := ⟨b, off + k * 7 + 6, none⟩) hbn).trans p6
      replace q0 := (hnx.out.1.cell (p := ⟨b, off + m * 7, none⟩) hbn).trans q0
      replace q1 := (hnx.out.1.cell (p := ⟨b, off + m * 7 + 1, none⟩) hbn).trans q1
      replace q2 := (hnx.out.1.cell (p := ⟨b, off + m * 7 + 2, none⟩) hbn).trans q2
      replace q3 := (hnx.out.1.cell (p := ⟨b, off + m * 7 + 3, none⟩) hbn).trans q3
      replace q4 := (hnx.out.1.cell (p := ⟨b, off + m * 7 + 4, none⟩) hbn).trans q4
      replace q5 := (hnx.out.1.cell (p := ⟨b, off + m * 7 + 5, none⟩) hbn).trans q5
      replace q6 := (hnx.out.1.cell (p := ⟨b, off + m * 7 + 6, none⟩) hbn).trans q6
      have hpl : pre.length = k := by have := congrArg List.length hpre.out; simpa using this
      obtain ⟨x, hx⟩ : ∃ x : StepNo ss, x.1 = k := ⟨⟨k, by omega⟩, rfl⟩
      have hX : Hid ((pre ++ [x]).map (·.1) = List.range m) := by
        show _ = _
        rw [List.map_append, hpre.out, hmk1, List.range_succ]
        simp [hx]
      obtain ⟨fn, tmps, assign, body, hy, hR⟩ := HY.out pre x wr.drew (HJ.out _ _ 1 hJs.out) (by omega)
      rw [hx] at hy
      have hR2 := hR.mono (R' := fun e W' => ∃ c : Bool, e = .returned (.bool c) ∧ Hid ((c = true ∧ J (pre ++ [x]) W' ∧ KpB n₀ Bs wr.drew W') ∨ (c = false ∧ Jx (pre ++ [x]) W'))) (by
        rintro e W' (⟨h1, h2, h3⟩ | ⟨h1, h2⟩)
        · exact ⟨true, h1, .inl ⟨rfl, h2, h3⟩⟩
        · exact ⟨false, h1, .inr ⟨rfl, h2⟩⟩)
      unfold stepV at hy
      rw [← hmk1] at hy
      have HR := Lib.hid hR2
      clear hR hR2 hpl hx
      have em : (m : Int) - 1 = (k : Int) := by omega
      have rk : IntKind.i64.wrap (k : Int) = (k : Int) := IntWalk.i64_in _ (by omega)
      have hkl : (k : Int) < (ss.length : Int) := by omega
      have hkl2 : k < ss.length := by omega
      clear hmk1
      have hmx : Try.prog.follows .mixedOrders = true := by kernel_rfl
      gi_wp2
      gi_region_with_o (refine HR.out.mono ?_; rintro e W3 ⟨c, rfl, hc⟩)
      all_goals
        rcases hc.out with ⟨rfl, h2, h3⟩ | ⟨rfl, h2⟩
        · have H2 := Lib.hid h2
          have HB2 := Lib.hid (kpB_t hnx.out (kpB_t ⟨(Below.refl n₀ wr).drew, rfl⟩ h3))
          clear h2 h3 hc
          gi_wp2
          go_roundw
          case rel => exact ⟨m, m + 1, pre ++ [x], rfl, by go_num, .inr hlt, hX, H2, HB2⟩
          case measure => simp [intOf]; omega
        · have H2 := Lib.hid h2
          clear h2 hc
          gi_wp2
          refine bodyPost_ret (results_none rfl _ _ _) rfl ?_
          exact ⟨⟨_, rfl⟩, .inr ⟨pre ++ [x], ⟨m, hlt, hX.out⟩, H2.out⟩⟩
    · have hkm : k = ss.length - 1 := by have := hmk.out; have := hk.out; omega
      have HK := Lib.hid hkm
      clear hkm
      gi_wp2
      go_end0
      exact ⟨⟨_, rfl⟩, .inl ⟨pre, by rw [hpre.out, HK.out], hJs.out⟩⟩

end Go.Proofs.Ytgkhhfojioepgaa
namespace Go.Proofs.Ytgkhhfojioepgaa
open Go.RowKit Go.Shelf
set_option linter.unusedSimpArgs false
set_option linter.unusedVariables false

theorem rowsIn_wide {n : Nat} {P : Program} {row : String} {args : Array Value} {w : World} {R : Value → World → Prop} (h : Rows P row args w R) : RowsIn Fence.wide n P row args w R :=
  fun c cs _ => let ⟨v, w', r, s⟩ := h c cs; ⟨v, w', r, stepsIn_wide.2 s⟩

section
variable {P : Program} {ops : Array Oper} {Q : Exit → Go.Act → World → Prop} {md : Region.Mode} {l n : Nat}

theorem operIn_of {o : Oper} {K : Go.Act → World → Prop} {a : Go.Act} {w : World} (hd : ∀ c, o.op ≠ .defer c) (h : o.wp P a w K Q) : o.wpIn (Fence.wide.inRound l) n P a w K Q := by
  unfold Oper.wp at h
  unfold Oper.wpIn
  refine ⟨fun _ _ => trivial, ?_⟩
  rw [Oper.semAt_plain _ _ _ hd]
  generalize (execOp a.eval o).run P w = r at *
  cases r with
  | ok x w' =>
    cases x with
    | value v => exact h
    | skip => exact h
    | defer d => exact h
    | enter f args => exact ⟨fun q => by simp [Fence.wide, Fence.inRound] at q, CallsIn.inRound l (callsIn_wide.2 h)⟩
    | row r args => exact ⟨fun q => by simp [Fence.wide, Fence.inRound] at q, rowsIn_wide h⟩
    | _ => exact h.elim
  | halt x w' =>
    cases x <;> first | exact h | exact h.elim

theorem opIn_of {i : Nat} {K : Go.Act → World → Prop} {a : Go.Act} {w : World} (hd : ∀ (j : Nat) (o : Oper), ops[j]? = some o → ∀ c, o.op ≠ .defer c) (hno : ¬ LetsOut Q) (h : wpOp P ops Q i K a w) : wpOpIn (Fence.wide.inRound l) n P ops Q i K a w := by
  unfold wpOp at h
  unfold wpOpIn
  cases ho : ops[i]? with
  | none => simpa [ho] using h
  | some o =>
    simp only [ho] at h ⊢
    by_cases hw : Region.wanted o (yielded ops a.tmps) = true
    · rw [if_pos hw] at h ⊢
      rcases h with h | h
      · exact operIn_of (hd i o ho) h
      · exact absurd h.2 hno
    · rw [if_neg hw] at h ⊢
      exact ⟨fun _ _ => trivial, h⟩

theorem anyIn_of (hd : ∀ (j : Nat) (o : Oper), ops[j]? = some o → ∀ c, o.op ≠ .defer c) (hno : ¬ LetsOut Q) : ∀ (fuel : Nat) (listed : Array Bool) (a : Go.Act) (w : World), wpAny P md ops Q fuel listed a w → wpAnyIn (Fence.wide.inRound l) n P md ops Q fuel listed a w
  | 0, _, _, _, h => h
  | fuel + 1, _, _, _, h => ⟨h.1, fun i hi => opIn_of hd hno (wpOp_mono (fun a' w' h' => anyIn_of hd hno fuel _ a' w' h') (h.2 i hi))⟩

/-- A region's operations, none of which is a defer statement. -/
def noDefer (ops : Array Oper) : Bool := ops.all fun o => match o.op with | .defer _ => false | _ => true
theorem noDefer_spec (h : noDefer ops = true) : ∀ (j : Nat) (o : Oper), ops[j]? = some o → ∀ c, o.op ≠ .defer c := by
  intro j o ho c hc
  unfold noDefer at h
  rw [Array.all_eq_true] at h
  obtain ⟨hj, he⟩ := Array.getElem?_eq_some_iff.1 ho
  have := h j hj
  rw [he, hc] at this
  cases this

/-- A region in a round: from the world behind the draw, a condition being kept. -/
theorem region_in_round {S : World → Prop} {id : Nat} {a : Go.Act} {w : World} (hm : P.follows .mixedOrders = true) (hd : noDefer ops = true) (hno : ¬ LetsOut Q) (hS : S w.drew)
    (h : S w.drew → wpAnyH P .any ops Q S ops.size (Array.replicate ops.size false) a w.drew) : (Code.region id ops true).wpIn (Fence.wide.inRound l) n P Q a w :=
  wpIn_region_any hm (anyIn_of (noDefer_spec hd) hno _ _ _ _ (wpAny_of_held _ _ _ _ (h hS)))
end
end Go.Proofs.Ytgkhhfojioepgaa
namespace Go.Proofs.Ytgkhhfojioepgaa
open Go.RowKit
set_option linter.unusedSimpArgs false
set_option linter.unusedVariables false

theorem info_int : (Try.prog.info? 3).map (fun i => (i.zero, i.size, i.bytes)) = some (some (.int .i64 0), 1, 8) := by kernel_rfl
theorem lt_of_block {w : World} {k : Nat} {o : Obj} (h : w.heap[k]? = some o) : k < w.heap.size := (Array.getElem?_eq_some_iff.1 h).1
def iRow (n : Nat) (F : Nat → Int) : Array Value := ((List.range n).map fun k => Value.int .i64 (F k)).toArray
def updI (F : Nat → Int) (i : Nat) (v : Int) : Nat → Int := fun k => if k = i then v else F k
theorem iRow_get (n : Nat) (F : Nat → Int) (k : Nat) (h : k < n) : (iRow n F)[k]? = some (.int .i64 (F k)) := by simp [iRow, h]
theorem iRow_set (n : Nat) (F : Nat → Int) (k : Nat) (v : Int) : (iRow n F).setIfInBounds k (.int .i64 v) = iRow n (updI F k v) := by
  unfold iRow
  rw [List.setIfInBounds_toArray]
  congr 1
  apply List.ext_getElem
  · simp
  · intro i h1 h2
    rw [List.getElem_set]
    simp only [List.getElem_map, List.getElem_range, updI]
    by_cases e : k = i
    · rw [if_pos e, if_pos e.symm]
    · rw [if_neg e, if_neg (fun q => e q.symm)]
theorem iRow_congr {n : Nat} {F G : Nat → Int} (h : ∀ k, k < n → F k = G k) : iRow n F = iRow n G := by
  unfold iRow
  congr 1
  exact List.map_congr_left fun k hk => by rw [h k (List.mem_range.1 hk)]
theorem iRow_zero (n : Nat) : madeCells #[Value.int .i64 0] n = iRow n (fun _ => 0) := by
  apply Array.ext
  · simp [madeCells, iRow]
  · intro i h1 h2
    simp [madeCells, iRow, Nat.mod_one]

/-- A row of numbers in block g. -/
def RowAt (w : World) (g n : Nat) (F : Nat → Int) : Prop := w.heap[g]? = some (.cells (iRow n F) 3 (0, 0))
section
variable {w : World} {g n : Nat} {F : Nat → Int}
theorem RowAt.cell (h : RowAt w g n F) {k : Nat} (hk : k < n) : w.cell? ⟨g, k, none⟩ = some (.int .i64 (F k)) := by
  have h' : w.heap[g]? = _ := h
  simp [World.cell?, h', iRow_get n F k hk]
theorem RowAt.free (h : RowAt w g n F) (k : Nat) : w.frozen? ⟨g, k, none⟩ = false := by
  have h' : w.heap[g]? = _ := h
  simp [World.frozen?, h']
theorem RowAt.set (h : RowAt w g n F) (k : Nat) (v : Int) : RowAt (w.setCell ⟨g, k, none⟩ (.int .i64 v)) g n (updI F k v) := by
  have h' : w.heap[g]? = _ := h
  show (w.setCell ⟨g, k, none⟩ (.int .i64 v)).heap[g]? = _
  simp [World.setCell, Array.getElem?_modify, h', iRow_set]
theorem RowAt.far (h : RowAt w g n F) {g' : Nat} (ne : g ≠ g') (k : Nat) (v : Value) : RowAt (w.setCell ⟨g', k, none⟩ v) g n F := by
  show (w.setCell ⟨g', k, none⟩ v).heap[g]? = _
  rw [Below.heap_setCell _ _ _ _ ne]; exact h
theorem RowAt.same (h : RowAt w g n F) {w' : World} (e : w'.heap = w.heap) : RowAt w' g n F := by
  show w'.heap[g]? = _
  rw [e]; exact h
theorem RowAt.congr (h : RowAt w g n F) {G : Nat → Int} (e : ∀ k, k < n → F k = G k) : RowAt w g n G := by
  show w.heap[g]? = _
  rw [← iRow_congr e]; exact h
theorem RowAt.grown (h : RowAt w g n F) {w' : World} (hg : w.grownBy w' none) : RowAt w' g n F := by
  have h' : w.heap[g]? = _ := h
  show w'.heap[g]? = _
  rw [hg.block g (lt_of_block h') (by simp)]; exact h
end


end Go.Proofs.Ytgkhhfojioepgaa
namespace Go.Proofs.Ytgkhhfojioepgaa
open Go.RowKit Go.Shelf
set_option linter.unusedSimpArgs false
set_option linter.unusedVariables false

attribute [local go_sem] Oper.semAt_some

/-- How far was gone up to a sample. -/
noncomputable def wayN (ss : List Smp) : Nat → Int
  | 0 => 0
  | k + 1 => wayN ss k + stepW (smpD ss k) (smpD ss (k + 1))
/-- One step more is laid into the row. -/
noncomputable def layW (ss : List Smp) (F : Nat → Int) (k : Nat) : Nat → Int := updI F (k + 1) (F k + stepW (smpD ss k) (smpD ss (k + 1)))
noncomputable def rowW (ss : List Smp) (pre : List (StepNo ss)) : Nat → Int := pre.foldl (fun F x => layW ss F x.1) fun _ => 0
theorem rowW_snoc (ss : List Smp) (pre : List (StepNo ss)) (x : StepNo ss) : rowW ss (pre ++ [x]) = layW ss (rowW ss pre) x.1 := by simp [rowW]

theorem rowW_bd {ss : List Smp} (hp : ∀ x ∈ ss, inPlane x) : ∀ (pre : List (StepNo ss)) (F : Nat → Int), (∀ j, 0 ≤ F j ∧ F j ≤ j * 300000000) → ∀ j, 0 ≤ pre.foldl (fun F x => layW ss F x.1) F j ∧ pre.foldl (fun F x => layW ss F x.1) F j ≤ j * 300000000
  | [], F, h, j => h j
  | x :: r, F, h, j => by
    refine rowW_bd hp r (layW ss F x.1) (fun i => ?_) j
    unfold layW updI
    split
    · rename_i e
      have := h x.1
      have := stepW_bd (smpD_plane hp x.1) (smpD_plane hp (x.1 + 1))
      subst e
      omega
    · exact h i
theorem rowW_done {ss : List Smp} : ∀ (m : Nat) (pre : List (StepNo ss)), pre.map (·.1) = List.range m → ∀ j, j ≤ m → rowW ss pre j = wayN ss j := by
  intro m
  induction m with
  | zero =>
    intro pre h j hj
    have : pre = [] := List.eq_nil_of_length_eq_zero (by have := congrArg List.length h; rwa [List.length_map, List.length_range] at this)
    subst this
    obtain rfl : j = 0 := by omega
    rfl
  | succ m ih =>
    intro pre h j hj
    rcases List.eq_nil_or_concat pre with rfl | ⟨ini, x, rfl⟩
    · have := congrArg List.length h; rw [List.length_map, List.length_range] at this; simp at this
    · rw [List.concat_eq_append] at h ⊢
      rw [List.map_append, List.range_succ] at h
      have hx := List.append_inj_right' h rfl
      have hi := List.append_inj_left' h rfl
      simp only [List.map_cons, List.map_nil, List.cons.injEq, and_true] at hx
      rw [rowW_snoc, hx]
      unfold layW updI
      split
      · rename_i e
        subst e
        rw [ih ini hi m (Nat.le_refl _)]; rfl
      · exact ih ini hi j (by omega)

theorem block_kept {W W' : World} {row : Option Nat} {B : Nat} {o : Obj} (h : W.heap[B]? = some o) (hc : o.isCells = true) (hg : W.grownBy W' row) (hrow : ∀ r, row = some r → ∃ o : Obj, W.heap[r]? = some o ∧ o.isCells = false) : W'.heap[B]? = some o :=
  (hg.block B (Array.getElem?_eq_some_iff.1 h).1 (fun e => by
    obtain ⟨o', ho, hc'⟩ := hrow B e.symm
    rw [h] at ho; cases ho; rw [hc] at hc'; cases hc')).trans h
theorem row_own {β : Type} (g n : Nat) (F : β → Nat → Int) : Own (fun s W => W.heap[g]? = some (.cells (iRow n (F s)) 3 (0, 0))) := fun _ _ _ _ hs hg hr => block_kept (B := g) hs rfl hg hr
def stepC (ss : List Smp) (k : Nat) : Array Value :=
  #[.int .i64 k, .int .i64 (smpD ss k).t, .int .i64 (smpD ss k).x, .int .i64 (smpD ss k).y, .int .i64 (smpD ss k).z, .int .i64 (smpD ss k).p, .int .i64 (smpD ss k).q, .int .i64 (smpD ss k).s,
    .int .i64 (smpD ss (k + 1)).t, .int .i64 (smpD ss (k + 1)).x, .int .i64 (smpD ss (k + 1)).y, .int .i64 (smpD ss (k + 1)).z, .int .i64 (smpD ss (k + 1)).p, .int .i64 (smpD ss (k + 1)).q, .int .i64 (smpD ss (k + 1)).s]

set_option maxRecDepth 100000 in
set_option maxHeartbeats 4000000 in
theorem waysOf_any (ao : Option Addr) (cap : Nat) (ss : List Smp) (hl : (ss.length : Int) ≤ 20000) (w : World) (hs : SmpsAt w ao ss) (hao : ∀ a, ao = some a → ss ≠ [] → a.block < w.heap.size) (hp : ∀ x ∈ ss, inPlane x) :
    Calls Try.prog 109 #[.slice ao ss.length cap] w fun e w' => (e = .returned (.slice (some ⟨w.heap.size, 0, none⟩) ss.length ss.length) ∧ RowAt w' w.heap.size ss.length (wayN ss)) ∧ Below w.heap.size w w' := by
  have hll : ss.length ≤ 20000 := by omega
  have hmk := run_make_row' (P := Try.prog) 48 3 (.int .i64 0) 8 Try.underlying48 info_int rfl .i64 .i64 ss.length (by omega) (by omega)
  have HS := Lib.hid hs; have HAO := Lib.hid hao; have HP := Lib.hid hp
  clear hs hao hp
  refine (callsIn_wide (n := 4)).1 ?_
  refine callsIn_of_wp_marks Try.func109 rfl trivial ?_ rfl
  simp only [Try.ntmps109, List.size_toArray, List.length_cons, List.length_nil, Nat.reduceAdd, Nat.reduceSub, Array.replicate_succ, Array.replicate_zero, List.push_toArray, List.append_toArray, List.nil_append, List.cons_append]
  gi_wp2_with (refine ⟨trivial, ?_⟩; gi_at_call 111; refine (callsIn_wide.2 (steps_any _ _ _ _)).mono ?_; rintro e w' ⟨rfl, rfl⟩)
  have hn0 : w.heap.size ≤ w.heap.size := Nat.le_refl _
  obtain ⟨W0, hW0⟩ : ∃ W0, (((w.alloc (.cells (madeCells #[.int .i64 0] ss.length) 3)).alloc (.cells #[.slice (some ⟨w.heap.size, 0, none⟩) ss.length ss.length] 48)).alloc (.cells #[.slice ao ss.length cap] 22)) = W0 := ⟨_, rfl⟩
  have bR : W0.heap[w.heap.size]? = some (.cells (iRow ss.length (fun _ => 0)) 3 (0, 0)) := by
    rw [← hW0, Below.heap_alloc _ _ _ (by simp; omega), Below.heap_alloc _ _ _ (by simp), ← iRow_zero]; exact World.alloc_heap_new w _
  have bV : Boxed W0 (w.heap.size + 1) 48 (.slice (some ⟨w.heap.size, 0, none⟩) ss.length ss.length) := by
    rw [← hW0]
    have := (Boxed.new (w.alloc (.cells (madeCells #[.int .i64 0] ss.length) 3)) 48 (.slice (some ⟨w.heap.size, 0, none⟩) ss.length ss.length)).alloc (.cells #[.slice ao ss.length cap] 22)
    simpa using this
  have bS : Boxed W0 (w.heap.size + 1 + 1) 22 (.slice ao ss.length cap) := by
    rw [← hW0]
    have := Boxed.new ((w.alloc (.cells (madeCells #[.int .i64 0] ss.length) 3)).alloc (.cells #[.slice (some ⟨w.heap.size, 0, none⟩) ss.length ss.length] 48)) 22 (.slice ao ss.length cap)
    simpa using this
  have hB0 : Below w.heap.size w W0 := by
    rw [← hW0]; exact (((Below.refl _ w).alloc (Nat.le_refl _) _).alloc (by simp) _).alloc (by simp; omega) _
  have hsz : W0.heap.size = w.heap.size + 3 := by rw [← hW0]; simp
  have hs0 : SmpsAt W0 ao ss := HS.out.grown (grown_below hB0)
  rw [hW0]
  clear hW0
  refine wpIn_rangeFunc_ownH (α := StepNo ss) rfl (by omega) (gf := 148) (lb := #[.pointer (some ⟨w.heap.size + 1 + 1, 0, none⟩)]) rfl trivial (enters_of Try.func148 (by kernel_rfl) rfl)
    (encs := fun x => #[stepV ss x.1]) (Kp := KpB w.heap.size (w.heap.size + 1 + 1)) (S := fun ys => ys.map (·.1) = List.range (ss.length - 1)) (Sp := fun _ => True) (N := ss.length) (w0 := W0) ?seq kpB_t ?kb (Below.refl _ _) (fun _ => rfl)
    (fun pre W => ((Boxed W (w.heap.size + 1) 48 (.slice (some ⟨w.heap.size, 0, none⟩) ss.length ss.length) ∧ Boxed W (w.heap.size + 1 + 1) 22 (.slice ao ss.length cap)) ∧ W.heap[w.heap.size]? = some (.cells (iRow ss.length (rowW ss pre)) 3 (0, 0))) ∧ Below w.heap.size w W)
    (fun _ _ _ => False)
    (OwnFrom.and (OwnFrom.and (OwnFrom.and (Own.from (boxed_own _ _ _) _) (Own.from (boxed_own _ _ _) _)) (Own.from (row_own _ _ (rowW ss)) _)) (ownFrom_below (Nat.le_refl _) (by omega)))
    (fun _ _ _ _ _ hs _ _ => hs)
    ⟨⟨⟨bV, bS⟩, bR⟩, hB0⟩
    (fun x a' W => ∃ Bx, w.heap.size + 2 < Bx ∧ W.heap[Bx]? = some (.cells (stepC ss x.1) 85 (0, 0)) ∧ a' = { tmps := #[.slice ao ss.length cap, undef, .slice none 0 0, .pointer (some ⟨w.heap.size + 1, 0, none⟩), .pointer (some ⟨Bx, 0, none⟩), .slice ao ss.length cap, .int .i64 ss.length, .slice (some ⟨w.heap.size, 0, none⟩) ss.length ss.length, .slice ao ss.length cap, .func (.func 148) #[] #[.pointer (some ⟨w.heap.size + 1 + 1, 0, none⟩)], stepV ss x.1, undef, undef, undef, undef, undef, undef, undef, undef, undef, undef, undef, undef, undef, undef], defers := [] })
    (fun x a' _ X Y row hs hg hr => by obtain ⟨Bx, h1, h2, h3⟩ := hs; exact ⟨Bx, h1, block_kept h2 rfl hg (fun r e => (hr r e).2), h3⟩)
    ?assign ?body ?done ?stop
  case seq =>
    intro l J Jx W hW hJ _ hY h0
    have hbW : W.heap[w.heap.size + 1 + 1]? = W0.heap[w.heap.size + 1 + 1]? := hW.block _ (by omega)
    refine (steps1_in 3 (by omega) l (w.heap.size + 1 + 1) w.heap.size ao cap ss hl HAO.out J Jx (fun pre V m hj => hJ pre V _ none hj (grown_drewN V none m) (fun r h => by cases h)) hY W ((World.cell?_of_block (a := ⟨w.heap.size + 1 + 1, 0, none⟩) hbW).trans bS.cell) (hs0.grown (grown_below hW)) h0).mono ?_
    rintro e W' ⟨he, h | ⟨pre, _, hj⟩⟩
    · exact ⟨he, .inl h⟩
    · exact ⟨he, .inr ⟨pre, trivial, hj⟩⟩
  case kb =>
    intro W l o o' hlW ho hc hwk
    exact ⟨belowK_b (w := W0) (by omega) W l o o' hlW ho hc hwk, World.putObj_heap_other (by omega)⟩
  case assign =>
    rintro l pre x W K ⟨⟨⟨bV1, bS1⟩, bR1⟩, hB1⟩ hK
    unfold stepV at *
    gi_wp2
    have hnb := bS1.lt
    refine hK _ _ ((KeepsOthers.alloc _ _).from _) ⟨(Below.refl _ W).alloc hB1.size _, ?_⟩ ⟨⟨⟨bV1.alloc _, bS1.alloc _⟩, (Below.heap_alloc _ _ _ (lt_of_block bR1)).trans bR1⟩, hB1.alloc hB1.size _⟩ ⟨W.heap.size, ?_, World.alloc_heap_new W _, rfl⟩
    · exact Below.heap_alloc _ _ _ hnb
    · omega
  case body =>
    rintro l pre x a' W hlr ⟨r, hr⟩ ⟨⟨⟨bV1, bS1⟩, bR1⟩, hB1⟩ ⟨Bx, hBx, bX, rfl⟩ hlt
    obtain ⟨k, hk⟩ : ∃ k, x.1 = k := ⟨_, rfl⟩
    have hkl : k + 1 < ss.length := by rw [← hk]; exact x.2
    rw [hk] at bX
    have hb0 := rowW_bd HP.out pre (fun _ => 0) (fun j => by omega) k
    obtain ⟨Fk, hFk⟩ : ∃ v, rowW ss pre k = v := ⟨_, rfl⟩
    have hb : 0 ≤ Fk ∧ Fk ≤ k * 300000000 := by rw [← hFk]; exact hb0
    have hsw := stepW_bd (smpD_plane HP.out k) (smpD_plane HP.out (k + 1))
    obtain ⟨wk, hwk⟩ : ∃ v, stepW (smpD ss k) (smpD ss (k + 1)) = v := ⟨_, rfl⟩
    rw [hwk] at hsw
    have HWK := Lib.hid hwk
    have cR : W.cell? ⟨w.heap.size, k, none⟩ = some (.int .i64 Fk) := by rw [← hFk]; exact RowAt.cell (n := ss.length) bR1 (by omega)
    have cX : ∀ (i : Nat) (v : Value), (stepC ss k)[i]? = some v → W.cell? ⟨Bx, i, none⟩ = some v := fun i v h => by
      simp [World.cell?, bX, h]
    have HC : Hid (∀ V, (W.drew.grownBy V (some w.heap.size) ∧ V.cell? ⟨w.heap.size, k, none⟩ = some (.int .i64 Fk)) → V.cell? ⟨w.heap.size + 1, 0, none⟩ = some (.slice (some ⟨w.heap.size, 0, none⟩) ss.length ss.length) ∧ V.cell? ⟨w.heap.size, k, none⟩ = some (.int .i64 Fk) ∧ V.cell? ⟨Bx, 0, none⟩ = some (.int .i64 k) ∧ V.cell? ⟨Bx, 1, none⟩ = some (.int .i64 (smpD ss k).t) ∧ V.cell? ⟨Bx, 2, none⟩ = some (.int .i64 (smpD ss k).x) ∧ V.cell? ⟨Bx, 3, none⟩ = some (.int .i64 (smpD ss k).y) ∧ V.cell? ⟨Bx, 4, none⟩ = some (.int .i64 (smpD ss k).z) ∧ V.cell? ⟨Bx, 5, none⟩ = some (.int .i64 (smpD ss k).p) ∧ V.cell? ⟨Bx, 6, none⟩ = some (.int .i64 (smpD ss k).q) ∧ V.cell? ⟨Bx, 7, none⟩ = some (.int .i64 (smpD ss k).s) ∧ V.cell? ⟨Bx, 8, none⟩ = some (.int .i64 (smpD ss (k + 1)).t) ∧ V.cell? ⟨Bx, 9, none⟩ = some (.int .i64 (smpD ss (k + 1)).x) ∧ V.cell? ⟨Bx, 10, none⟩ = some (.int .i64 (smpD ss (k + 1)).y) ∧ V.cell? ⟨Bx, 11, none⟩ = some (.int .i64 (smpD ss (k + 1)).z) ∧ V.cell? ⟨Bx, 12, none⟩ = some (.int .i64 (smpD ss (k + 1)).p) ∧ V.cell? ⟨Bx, 13, none⟩ = some (.int .i64 (smpD ss (k + 1)).q) ∧ V.cell? ⟨Bx, 14, none⟩ = some (.int .i64 (smpD ss (k + 1)).s)) := fun V hV => by
      have keep : ∀ (b i : Nat) (v : Value), b ≠ w.heap.size → W.cell? ⟨b, i, none⟩ = some v → V.cell? ⟨b, i, none⟩ = some v := fun b i v hne h => hV.1.cell (w := W.drew) h (fun e => hne (by injection e))
      exact ⟨keep _ _ _ (by omega) bV1.cell, hV.2, keep _ _ _ (by omega) (cX 0 _ rfl), keep _ _ _ (by omega) (cX 1 _ rfl), keep _ _ _ (by omega) (cX 2 _ rfl), keep _ _ _ (by omega) (cX 3 _ rfl), keep _ _ _ (by omega) (cX 4 _ rfl), keep _ _ _ (by omega) (cX 5 _ rfl), keep _ _ _ (by omega) (cX 6 _ rfl), keep _ _ _ (by omega) (cX 7 _ rfl), keep _ _ _ (by omega) (cX 8 _ rfl), keep _ _ _ (by omega) (cX 9 _ rfl), keep _ _ _ (by omega) (cX 10 _ rfl), keep _ _ _ (by omega) (cX 11 _ rfl), keep _ _ _ (by omega) (cX 12 _ rfl), keep _ _ _ (by omega) (cX 13 _ rfl), keep _ _ _ (by omega) (cX 14 _ rfl)⟩
    have hS0 : (W.drew.grownBy W.drew (some w.heap.size) ∧ W.drew.cell? ⟨w.heap.size, k, none⟩ = some (.int .i64 Fk)) := ⟨World.grownBy.refl _ _, cR⟩
    obtain ⟨k1, hk1⟩ : ∃ k1, k1 = k + 1 := ⟨_, rfl⟩
    have HK1 := Lib.hid hk1
    have ek : (k : Int) + 1 = (k1 : Int) := by omega
    have rk : IntKind.i64.wrap (k : Int) = (k : Int) := IntWalk.i64_in _ (by omega)
    have rk1 : IntKind.i64.wrap (k1 : Int) = (k1 : Int) := IntWalk.i64_in _ (by omega)
    have k1l : (k1 : Int) < (ss.length : Int) := by omega
    have kl : (k : Int) < (ss.length : Int) := by omega
    have k1n : k1 < ss.length := by omega
    have kn : k < ss.length := by omega
    have KX := Lib.hid bX; have KV := Lib.hid bV1; have KR := Lib.hid bR1; have KB := Lib.hid hB1; have KS := Lib.hid bS1; have KF := Lib.hid hFk; have KCR := Lib.hid cR; have KLR := Lib.hid hr
    have KB0 := Lib.hid hb; have KSW := Lib.hid hsw; have KHX := Lib.hid hBx; have KK := Lib.hid hk; have HM := Lib.hid hmk
    have hmx : Try.prog.follows .mixedOrders = true := by kernel_rfl
    unfold stepV
    rw [hk]
    clear bX bV1 bR1 hB1 bS1 hFk cR hr hb hb0 hsw hBx cX hwk hs0 hB0 bV bR bS hk1 hlt hlr hk hmk
    gi_wp2
    refine region_in_round (S := fun V => (W.drew.grownBy V (some w.heap.size) ∧ V.cell? ⟨w.heap.size, k, none⟩ = some (.int .i64 Fk))) hmx (by kernel_rfl) (fun ⟨_, _, h⟩ => h) hS0 (fun hHeld => ?_)
    clear hS0 hmx
    refine wpAnyH_take (i := 0) (v := .slice (some ⟨w.heap.size, 0, none⟩) ss.length ss.length) rfl (by kernel_rfl) (by kernel_rfl) (by kernel_rfl) (fun _ _ _ h => h) (Or.inl ⟨by rfl, fun V hV => ?_⟩) hHeld ?_
    · have q1 := (HC.out V hV).1
      clear hV
      go_simp
    simp only [Go.Act.put, List.setIfInBounds_toArray]
    refine wpAnyH_take (i := 1) (v := .pointer (some ⟨Bx, 0, none⟩)) rfl (by kernel_rfl) (by kernel_rfl) (by kernel_rfl) (fun _ _ _ h => h) (Or.inl ⟨by rfl, fun V hV => ?_⟩) hHeld ?_
    · clear hV
      go_simp
    simp only [Go.Act.put]
    refine wpAnyH_take (i := 2) (v := .int .i64 (k : Int)) rfl (by kernel_rfl) (by kernel_rfl) (by kernel_rfl) (fun _ _ _ h => h) (Or.inl ⟨by rfl, fun V hV => ?_⟩) hHeld ?_
    · have q1 := (HC.out V hV).2.2.1
      clear hV
      go_simp
    simp only [Go.Act.put]
    refine wpAnyH_take (i := 3) (v := .int .i64 (k1 : Int)) rfl (by kernel_rfl) (by kernel_rfl) (by kernel_rfl) (fun _ _ _ h => h) (Or.inl ⟨by rfl, fun V hV => ?_⟩) hHeld ?_
    · clear hV
      go_simp
    simp only [Go.Act.put]
    refine wpAnyH_take (i := 4) (v := .slice (some ⟨w.heap.size, 0, none⟩) ss.length ss.length) rfl (by kernel_rfl) (by kernel_rfl) (by kernel_rfl) (fun _ _ _ h => h) (Or.inl ⟨by rfl, fun V hV => ?_⟩) hHeld ?_
    · have q1 := (HC.out V hV).1
      clear hV
      go_simp
    simp only [Go.Act.put]
    refine wpAnyH_take (i := 5) (v := .pointer (some ⟨Bx, 0, none⟩)) rfl (by kernel_rfl) (by kernel_rfl) (by kernel_rfl) (fun _ _ _ h => h) (Or.inl ⟨by rfl, fun V hV => ?_⟩) hHeld ?_
    · clear hV
      go_simp
    simp only [Go.Act.put]
    refine wpAnyH_take (i := 6) (v := .int .i64 (k : Int)) rfl (by kernel_rfl) (by kernel_rfl) (by kernel_rfl) (fun _ _ _ h => h) (Or.inl ⟨by rfl, fun V hV => ?_⟩) hHeld ?_
    · have q1 := (HC.out V hV).2.2.1
      clear hV
      go_simp
    simp only [Go.Act.put]
    refine wpAnyH_take (i := 7) (v := .pointer (some ⟨w.heap.size, k, none⟩)) rfl (by kernel_rfl) (by kernel_rfl) (by kernel_rfl) (fun _ _ _ h => h) (Or.inl ⟨by rfl, fun V hV => ?_⟩) hHeld ?_
    · clear hV
      go_simp
    simp only [Go.Act.put]
    refine wpAnyH_take (i := 8) (v := .int .i64 Fk) rfl (by kernel_rfl) (by kernel_rfl) (by kernel_rfl) (fun _ _ _ h => h) (Or.inl ⟨by rfl, fun V hV => ?_⟩) hHeld ?_
    · have q1 := (HC.out V hV).2.1
      clear hV
      go_simp
    simp only [Go.Act.put]
    refine wpAnyH_take (i := 9) (v := .agg #[.int .i64 k, .int .i64 (smpD ss k).t, .int .i64 (smpD ss k).x, .int .i64 (smpD ss k).y, .int .i64 (smpD ss k).z, .int .i64 (smpD ss k).p, .int .i64 (smpD ss k).q, .int .i64 (smpD ss k).s, .int .i64 (smpD ss (k + 1)).t, .int .i64 (smpD ss (k + 1)).x, .int .i64 (smpD ss (k + 1)).y, .int .i64 (smpD ss (k + 1)).z, .int .i64 (smpD ss (k + 1)).p, .int .i64 (smpD ss (k + 1)).q, .int .i64 (smpD ss (k + 1)).s]) rfl (by kernel_rfl) (by kernel_rfl) (by kernel_rfl) (fun _ _ _ h => h) (Or.inl ⟨by rfl, fun V hV => ?_⟩) hHeld ?_
    · obtain ⟨_, _, v0, v1, v2, v3, v4, v5, v6, v7, v8, v9, v10, v11, v12, v13, v14⟩ := HC.out V hV
      clear hV
      go_simp
    simp only [Go.Act.put]
    refine wpAnyH_ready (rs := [10]) (by kernel_rfl) (by simp) ?_
    refine AllReadyH.cons rfl (fun K hK => ?_) AllReadyH.nil
    go_simp
    refine (way_is (k : Int) (smpD ss k) (smpD ss (k + 1)) (smpD_plane HP.out k) (smpD_plane HP.out (k + 1)) _ HWK).mono ?_
    rintro e w1 ⟨rfl, hg1⟩
    have hR1 : RowAt w1 w.heap.size ss.length (rowW ss pre) := RowAt.grown (w := W.drew) KR.out hg1
    have hS1 : (W.drew.grownBy w1 (some w.heap.size) ∧ w1.cell? ⟨w.heap.size, k, none⟩ = some (.int .i64 Fk)) := ⟨⟨hg1.os, hg1.tape, hg1.output, hg1.size, fun i hi _ => hg1.block i hi (by simp)⟩, grown_cell hg1 KCR.out⟩
    refine hK.out _ _ hS1 (fun hHeld1 => ?_)
    have b0 : 0 ≤ Fk := KB0.out.1
    have b1 : Fk ≤ 6000000000000 := by have := KB0.out.2; omega
    have b2 : 0 ≤ wk := KSW.out.1
    have b3 : wk ≤ 300000000 := KSW.out.2
    have rs : IntKind.i64.wrap (Fk + wk) = Fk + wk := IntWalk.i64_in _ (by omega)
    have HG1 := Lib.hid hg1; have HR1 := Lib.hid hR1
    have cS := hR1.cell (k := k1) k1n
    have fS := hR1.free k1
    clear hK hS1 hR1 hg1
    refine wpAnyH_take (i := 11) (v := .int .i64 (Fk + wk)) rfl (by kernel_rfl) (by kernel_rfl) (by kernel_rfl) (fun _ _ _ h => h) (Or.inl ⟨by rfl, fun V hV => ?_⟩) hHeld1 ?_
    · clear hV
      go_simp
    simp only [Go.Act.put, List.setIfInBounds_toArray]
    refine wpAnyH_take (i := 12) (v := .pointer (some ⟨w.heap.size, k1, none⟩)) rfl (by kernel_rfl) (by kernel_rfl) (by kernel_rfl) (fun _ _ _ h => h) (Or.inl ⟨by rfl, fun V hV => ?_⟩) hHeld1 ?_
    · clear hV
      go_simp
    simp only [Go.Act.put]
    refine wpAnyH_ready (rs := [13]) (by kernel_rfl) (by simp) ?_
    refine AllReadyH.cons rfl (fun K hK => ?_) AllReadyH.nil
    go_simp
    refine hK.out _ _ ⟨?_, ?_⟩ (fun _ => ?_)
    · exact ⟨hHeld1.1.os, hHeld1.1.tape, hHeld1.1.output, Nat.le_trans hHeld1.1.size (by simp [World.setCell]), fun i hi hne => by
        rw [Below.heap_setCell _ _ _ _ (fun e => hne (by rw [e]))]; exact hHeld1.1.block i hi hne⟩
    · rw [World.cell?_setCell_other _ _ _ _ (fun e => by injection e with _ e2 _; have := HK1.out; omega)]; exact hHeld1.2
    refine wpAnyH_done (by kernel_rfl) ?_ _
    have hb01 : Below w.heap.size W.drew w1 := (below_grown HG1.out).mono (by have := KV.out.lt; show _ ≤ W.heap.size; omega)
    refine ⟨?_, ⟨?_, ?_⟩, ⟨⟨?_, ?_⟩, ?_⟩, ?_⟩
    · exact (((KeepsOthers.drew W).trans (KeepsOthers.of_grownBy HG1.out (fun j o e => by cases e))).trans (KeepsOthers.setCell _ _ _)).from _
    · exact (((Below.refl _ W).drew).trans hb01).setCell (p := ⟨w.heap.size, k1, none⟩) (Nat.le_refl _) _
    · rw [Below.heap_setCell _ _ _ _ (by show _ ≠ w.heap.size; omega), HG1.out.block _ (by show _ < W.heap.size; exact KS.out.lt) (by simp)]; rfl
    · show (w1.setCell _ _).heap[_]? = _
      rw [Below.heap_setCell _ _ _ _ (by show _ ≠ w.heap.size; omega)]; exact Boxed.kept (W := W.drew) KV.out HG1.out (by simp)
    · show (w1.setCell _ _).heap[_]? = _
      rw [Below.heap_setCell _ _ _ _ (by show _ ≠ w.heap.size; omega)]; exact Boxed.kept (W := W.drew) KS.out HG1.out (by simp)
    · have q := HR1.out.set k1 (Fk + wk)
      rw [rowW_snoc, KK.out]
      unfold layW
      rw [KF.out, HWK.out, ← HK1.out]
      exact q
    · exact (KB.out.trans (((Below.refl _ W).drew).trans hb01)).setCell (p := ⟨w.heap.size, k1, none⟩) (Nat.le_refl _) _
  case done =>
    rintro D ys W hD hS ⟨⟨⟨bV1, bS1⟩, bR1⟩, hB1⟩ hK
    have cV := bV1.cell
    gi_wp2
    refine ⟨by simp, .inl ⟨_, _, rfl, run_takeDeferred hK, ?_⟩⟩
    refine ⟨_, results_tmp rfl _ _ _, ⟨rfl, ?_⟩, hB1.trans (belowK_b (w := w) (Nat.le_refl _) W D _ _ (by omega) hK rfl rfl)⟩
    show (W.putObj D _).heap[w.heap.size]? = _
    rw [World.putObj_heap_other (by omega), bR1, iRow_congr (fun j hj => rowW_done (ss.length - 1) ys hS j (by omega))]
  case stop =>
    rintro D c pre W _ _ h _
    exact h.elim

end Go.Proofs.Ytgkhhfojioepgaa
namespace Go.Proofs.Ytgkhhfojioepgaa
open Go.RowKit
set_option linter.unusedSimpArgs false
set_option linter.unusedVariables false

/-- The cells of a list of numbers. -/
def IntsC (w : World) (ao : Option Addr) (n : Nat) (F : Nat → Int) : Prop := ∀ j, j < n → ∃ g, ao = some ⟨g, 0, none⟩ ∧ w.cell? ⟨g, j, none⟩ = some (.int .i64 (F j))
theorem IntsC.grown {w w' : World} {ao : Option Addr} {n : Nat} {F : Nat → Int} (h : IntsC w ao n F) (g : w.grownBy w' none) : IntsC w' ao n F := fun j hj => by
  obtain ⟨b, hb, hc⟩ := h j hj
  exact ⟨b, hb, grown_cell g hc⟩
def waysE (a : Act) : Nat × Int := if chkE a = 0 then (a.ss.length, 0) else (0, chkE a)

set_option maxHeartbeats 800000 in
theorem ways_any (a : Act) (w : World) (ha : ActAt w a) {n : Nat} {E : Int} (hE : Hid (waysE a = (n, E))) :
    Calls Try.prog 47 #[a.val] w fun x w' => (∃ ao cap, x = .returned (.tuple #[.slice ao n cap, .int .i64 E]) ∧ IntsC w' ao n (wayN a.ss)) ∧ w.grownBy w' none := by
  obtain ⟨ce, hce⟩ : ∃ e, chkE a = e := ⟨_, rfl⟩
  have hw := hE.out
  unfold waysE at hw
  have HCE := Lib.hid hce
  have HA := Lib.hid ha
  have hok : ce = 0 → ActOk a := fun h => chk_ok (hce.trans h)
  rw [hce] at hw
  obtain ⟨nm, sp, st, so, sc, ss, lo, lc, ls, to_, tc, ts⟩ := a
  simp only [Act.val] at *
  clear hce hE ha
  by_cases h0 : ce = 0
  · rw [if_pos h0] at hw
    simp only [Prod.mk.injEq] at hw
    obtain ⟨rfl, rfl⟩ := hw
    have hk := hok h0
    subst h0
    have HL := Lib.hid hk.sl; have HP := Lib.hid hk.plane
    clear hok hk
    go_enter Try.func47, Try.ntmps47
    go_wp2_with fail
    refine (check_any ⟨nm, sp, st, so, sc, ss, lo, lc, ls, to_, tc, ts⟩ _ (HA.out.grown (World.grownBy_alloc _ _ _)) HCE).mono ?_; rintro e w1 ⟨rfl, hg1⟩
    have G1 := grown_trans (World.grownBy_alloc w (.cells #[.string nm, .int .i64 sp, .int .i64 st, .slice so ss.length sc, .slice lo ls.length lc, .slice to_ ts.length tc] 26) none) hg1
    have b3 : w1.cell? ⟨w.heap.size, 3, none⟩ = some (.slice so ss.length sc) := grown_cell hg1 (by simp)
    clear hg1
    go_wp2_with fail
    refine (waysOf_any so sc ss HL.out w1 (HA.out.grown G1).hs ((HA.out.grown G1).hs).block HP.out).mono ?_; rintro e w2 ⟨⟨rfl, hR⟩, hg2⟩
    have G2 := grown_trans G1 (grown_below hg2)
    have HR := Lib.hid hR
    clear hR hg2 G1
    go_wp2_with fail
    go_ret2
    exact ⟨⟨_, _, rfl, fun j hj => ⟨_, rfl, HR.out.cell hj⟩⟩, G2⟩
  · rw [if_neg h0] at hw
    simp only [Prod.mk.injEq] at hw
    obtain ⟨rfl, rfl⟩ := hw
    have hne : (ce != 0) = true := by simpa using h0
    clear hok h0
    go_enter Try.func47, Try.ntmps47
    go_wp2_with fail
    refine (check_any ⟨nm, sp, st, so, sc, ss, lo, lc, ls, to_, tc, ts⟩ _ (HA.out.grown (World.grownBy_alloc _ _ _)) HCE).mono ?_; rintro e w1 ⟨rfl, hg1⟩
    have G1 := grown_trans (World.grownBy_alloc w (.cells #[.string nm, .int .i64 sp, .int .i64 st, .slice so ss.length sc, .slice lo ls.length lc, .slice to_ ts.length tc] 26) none) hg1
    clear hg1
    go_wp2_with fail
    go_ret2
    exact ⟨⟨_, _, rfl, fun j hj => absurd hj (by omega)⟩, G1⟩

/-- The list of the reference's ways so far. -/
noncomputable def wayVs (ss : List Smp) (k : Nat) : List Value := (List.range k).map fun j => Value.int .i64 (wayN ss j)
theorem wayVs_succ (ss : List Smp) (k : Nat) : wayVs ss (k + 1) = wayVs ss k ++ [.int .i64 (wayN ss k)] := by simp [wayVs, List.range_succ]
theorem wayN_bd {ss : List Smp} (hp : ∀ x ∈ ss, inPlane x) : ∀ j, 0 ≤ wayN ss j ∧ wayN ss j ≤ j * 300000000
  | 0 => by simp [wayN]
  | k + 1 => by
    have := wayN_bd hp k
    have := stepW_bd (smpD_plane hp k) (smpD_plane hp (k + 1))
    unfold wayN; omega
noncomputable def sumTo (ss : List Smp) : Nat → Int
  | 0 => 0
  | k + 1 => wayN ss k
end Go.Proofs.Ytgkhhfojioepgaa
namespace Go.Proofs.Ytgkhhfojioepgaa
open Go.RowKit
set_option linter.unusedSimpArgs false
set_option linter.unusedVariables false

theorem bd_fits {k : Int} {l : Ln} (h : l.bd k) (hk : k ≤ 20000) : l.fits := ⟨h.u0, by have := h.u1; omega, h.d0, by have := h.d1; omega, h.t0, by have := h.t1; omega, h.z0, h.z1⟩
theorem line_first {z : Int} (z0 : -100000 ≤ z) (z1 : z ≤ 100000) : (Ln.first z).bd 0 := ⟨by simp [Ln.first], by simp [Ln.first], by simp [Ln.first], by simp [Ln.first], by simp [Ln.first], by simp [Ln.first], z0, z1⟩


theorem ClS.grown {w : World} {th : Int} {wr wr' : World} {A B C : Nat} {n l h : Ln} (k : ClS w th wr A B C n l h) (g : wr.grownBy wr' none) : ClS w th wr' A B C n l h :=
  ⟨grown_trans k.g g, grown_cell g k.tz, (g.block _ (Array.getElem?_eq_some_iff.1 k.kz).1 (by simp)).trans k.kz, k.a.grown g, k.b.grown g, k.c.grown g, k.ab, k.ac, k.bc, k.ha, k.hb, k.hc⟩
theorem ClS.setA {w : World} {th : Int} {wr : World} {A B C : Nat} {n l h : Ln} (k : ClS w th wr A B C n l h) (m : Ln) : ClS w th ((((wr.setCell ⟨A, 0, none⟩ (.int .i64 m.up)).setCell ⟨A, 1, none⟩ (.int .i64 m.down)).setCell ⟨A, 2, none⟩ (.int .i64 m.turns)).setCell ⟨A, 3, none⟩ (.int .i64 m.z)) A B C m l h :=
  ⟨grown_set (grown_set (grown_set (grown_set k.g (by have := k.ha; omega) _ _) (by have := k.ha; omega) _ _) (by have := k.ha; omega) _ _) (by have := k.ha; omega) _ _,
   by rw [World.cell?_setCell_other, World.cell?_setCell_other, World.cell?_setCell_other, World.cell?_setCell_other]
      · exact k.tz
      all_goals (intro e; injection e with e1 _ _; have := k.ha; omega),
   by rw [Below.heap_setCell, Below.heap_setCell, Below.heap_setCell, Below.heap_setCell]
      · exact k.kz
      all_goals (show _ ≠ A; have := k.ha; omega),
   k.a.set m, (((k.b.far k.ab.symm _ _).far k.ab.symm _ _).far k.ab.symm _ _).far k.ab.symm _ _, (((k.c.far k.ac.symm _ _).far k.ac.symm _ _).far k.ac.symm _ _).far k.ac.symm _ _, k.ab, k.ac, k.bc, k.ha, k.hb, k.hc⟩
theorem ClS.swap {w : World} {th : Int} {wr : World} {A B C : Nat} {n l h : Ln} (k : ClS w th wr A B C n l h) : ClS w th wr B A C l n h := ⟨k.g, k.tz, k.kz, k.b, k.a, k.c, k.ab.symm, k.bc, k.ac, k.hb, k.ha, k.hc⟩
theorem ClS.turn {w : World} {th : Int} {wr : World} {A B C : Nat} {n l h : Ln} (k : ClS w th wr A B C n l h) : ClS w th wr C B A h l n := ⟨k.g, k.tz, k.kz, k.c, k.b, k.a, k.bc.symm, k.ac.symm, k.ab.symm, k.hc, k.hb, k.ha⟩

/-- The three lines, as Climb lays them at first. -/
theorem cls_start {w w1 : World} {th zf : Int} (g : w.grownBy w1 none) (tz : w1.cell? ⟨w.heap.size + 1, 0, none⟩ = some (.int .i64 th)) (kz : w1.heap[w.heap.size + 1 + 1]? = some (.cells #[.int .i64 0, .int .i64 0, .int .i64 0] 81 (0, 0))) (hs : w.heap.size + 2 < w1.heap.size) (p q : Nat) (h : (p = w1.heap.size + 1 ∧ q = w1.heap.size + 1 + 1) ∨ (p = w1.heap.size + 1 + 1 ∧ q = w1.heap.size + 1)) :
    ClS w th (((w1.alloc (.cells #[.int .i64 0, .int .i64 0, .int .i64 0, .int .i64 zf] 139)).alloc (.cells #[.int .i64 0, .int .i64 0, .int .i64 0, .int .i64 zf] 139)).alloc (.cells #[.int .i64 0, .int .i64 0, .int .i64 0, .int .i64 zf] 139)).drew w1.heap.size p q (Ln.first zf) (Ln.first zf) (Ln.first zf) := by
  have G := grown_trans (grown_trans (World.grownBy_alloc w1 (.cells #[.int .i64 0, .int .i64 0, .int .i64 0, .int .i64 zf] 139) none) (World.grownBy_alloc (w1.alloc (.cells #[.int .i64 0, .int .i64 0, .int .i64 0, .int .i64 zf] 139)) (.cells #[.int .i64 0, .int .i64 0, .int .i64 0, .int .i64 zf] 139) none)) (World.grownBy_alloc ((w1.alloc (.cells #[.int .i64 0, .int .i64 0, .int .i64 0, .int .i64 zf] 139)).alloc (.cells #[.int .i64 0, .int .i64 0, .int .i64 0, .int .i64 zf] 139)) (.cells #[.int .i64 0, .int .i64 0, .int .i64 0, .int .i64 zf] 139) none)
  have a0 : ((w1.alloc (.cells #[.int .i64 0, .int .i64 0, .int .i64 0, .int .i64 zf] 139)).alloc (.cells #[.int .i64 0, .int .i64 0, .int .i64 0, .int .i64 zf] 139)).alloc (.cells #[.int .i64 0, .int .i64 0, .int .i64 0, .int .i64 zf] 139) |>.heap[w1.heap.size]? = some (.cells #[.int .i64 0, .int .i64 0, .int .i64 0, .int .i64 zf] 139) := by
    rw [Below.heap_alloc _ _ _ (by simp; omega), Below.heap_alloc _ _ _ (by simp)]; exact heap_alloc_new w1 _
  have a1 : ((w1.alloc (.cells #[.int .i64 0, .int .i64 0, .int .i64 0, .int .i64 zf] 139)).alloc (.cells #[.int .i64 0, .int .i64 0, .int .i64 0, .int .i64 zf] 139)).alloc (.cells #[.int .i64 0, .int .i64 0, .int .i64 0, .int .i64 zf] 139) |>.heap[w1.heap.size + 1]? = some (.cells #[.int .i64 0, .int .i64 0, .int .i64 0, .int .i64 zf] 139) := by
    rw [Below.heap_alloc _ _ _ (by simp)]
    have q := heap_alloc_new (w1.alloc (.cells #[.int .i64 0, .int .i64 0, .int .i64 0, .int .i64 zf] 139)) (.cells #[.int .i64 0, .int .i64 0, .int .i64 0, .int .i64 zf] 139)
    simpa using q
  have a2 : ((w1.alloc (.cells #[.int .i64 0, .int .i64 0, .int .i64 0, .int .i64 zf] 139)).alloc (.cells #[.int .i64 0, .int .i64 0, .int .i64 0, .int .i64 zf] 139)).alloc (.cells #[.int .i64 0, .int .i64 0, .int .i64 0, .int .i64 zf] 139) |>.heap[w1.heap.size + 1 + 1]? = some (.cells #[.int .i64 0, .int .i64 0, .int .i64 0, .int .i64 zf] 139) := by
    have q := heap_alloc_new ((w1.alloc (.cells #[.int .i64 0, .int .i64 0, .int .i64 0, .int .i64 zf] 139)).alloc (.cells #[.int .i64 0, .int .i64 0, .int .i64 0, .int .i64 zf] 139)) (.cells #[.int .i64 0, .int .i64 0, .int .i64 0, .int .i64 zf] 139)
    simpa using q
  refine ⟨grown_trans (grown_trans g G) (grown_drewN _ _ 1), grown_cell G tz, (G.block _ (by omega) (by simp)).trans kz, a0, ?_, ?_, by omega, by omega, by omega, hs, by omega, by omega⟩
  · rcases h with ⟨rfl, rfl⟩ | ⟨rfl, rfl⟩
    · exact a1
    · exact a2
  · rcases h with ⟨rfl, rfl⟩ | ⟨rfl, rfl⟩
    · exact a2
    · exact a1

set_option maxRecDepth 100000 in
set_option maxHeartbeats 6400000 in
theorem climb_two (nm : ByteArray) (sp st : Int) (b off sc : Nat) (ss : List Smp) (lo : Option Addr) (lc : Nat) (ls : List LapV) (to_ : Option Addr) (tc : Nat) (ts : List ByteArray) (th : Int) (t0 : 0 ≤ th) (t1 : th ≤ 200000) (hl : (ss.length : Int) ≤ 20000) (h2 : 2 ≤ ss.length) (hcap : ss.length ≤ sc) (w : World)
    (HA : Hid (ActAt w ⟨nm, sp, st, some ⟨b, off, none⟩, sc, ss, lo, lc, ls, to_, tc, ts⟩)) (HCE : Hid (chkE ⟨nm, sp, st, some ⟨b, off, none⟩, sc, ss, lo, lc, ls, to_, tc, ts⟩ = 0)) (HZ : Hid (∀ k, -100000 ≤ (smpD ss k).z ∧ (smpD ss k).z ≤ 100000)) {r : Ln} (hr : Hid (climbL th ss = r)) :
    Calls Try.prog 68 #[.agg #[.string nm, .int .i64 sp, .int .i64 st, .slice (some ⟨b, off, none⟩) ss.length sc, .slice lo ls.length lc, .slice to_ ts.length tc], .int .i64 th] w fun x w' => x = .returned (.tuple #[.agg #[.int .i64 r.up, .int .i64 r.down, .int .i64 r.turns], .int .i64 0]) ∧ w.grownBy w' none := by
  have n1 : 1 ≤ ss.length := by omega
  have n2 : (1 : Int) ≤ (ss.length : Int) := by omega
  have n3 : (0 : Int) < (ss.length : Int) := by omega
  have n4 : 0 < ss.length := by omega
  have n5 : (ss.length : Int) ≤ (sc : Int) := by omega
  have n6 : ¬ sc = 1 := by omega
  have n7 : ((ss.length : Int) == 0) = false := by rw [beq_eq_false_iff_ne]; omega
  go_enter Try.func68, Try.ntmps68
  go_wp2_with fail
  refine (check_any ⟨nm, sp, st, some ⟨b, off, none⟩, sc, ss, lo, lc, ls, to_, tc, ts⟩ _ (HA.out.grown (grown_trans (grown_trans (World.grownBy_alloc _ _ _) (World.grownBy_alloc _ _ _)) (World.grownBy_alloc _ _ _))) HCE).mono ?_; rintro e w1 ⟨rfl, hg1⟩
  have G1 : w.grownBy w1 none := grown_trans (grown_trans (grown_trans (World.grownBy_alloc w (.cells #[.string nm, .int .i64 sp, .int .i64 st, .slice (some ⟨b, off, none⟩) ss.length sc, .slice lo ls.length lc, .slice to_ ts.length tc] 26) none) (World.grownBy_alloc _ _ _)) (World.grownBy_alloc _ _ _)) hg1
  have b3 : w1.cell? ⟨w.heap.size, 3, none⟩ = some (.slice (some ⟨b, off, none⟩) ss.length sc) := grown_cell hg1 (by go_simp)
  have tz : w1.cell? ⟨w.heap.size + 1, 0, none⟩ = some (.int .i64 th) := grown_cell hg1 (by go_simp)
  have kz : w1.heap[w.heap.size + 1 + 1]? = some (.cells #[.int .i64 0, .int .i64 0, .int .i64 0] 81 (0, 0)) := by
    rw [hg1.block _ (by simp) (by simp)]
    have q := heap_alloc_new ((w.alloc (.cells #[.string nm, .int .i64 sp, .int .i64 st, .slice (some ⟨b, off, none⟩) ss.length sc, .slice lo ls.length lc, .slice to_ ts.length tc] 26)).alloc (.cells #[.int .i64 th] 3)) (.cells #[.int .i64 0, .int .i64 0, .int .i64 0] 81)
    simpa using q
  have z0 : w1.cell? ⟨w.heap.size + 1 + 1, 0, none⟩ = some (.int .i64 0) := by simp [World.cell?, kz]
  have z1 : w1.cell? ⟨w.heap.size + 1 + 1, 1, none⟩ = some (.int .i64 0) := by simp [World.cell?, kz]
  have z2 : w1.cell? ⟨w.heap.size + 1 + 1, 2, none⟩ = some (.int .i64 0) := by simp [World.cell?, kz]
  have y0 : w1.frozen? ⟨w.heap.size + 1 + 1, 0, none⟩ = false := by simp [World.frozen?, kz]
  have y1 : w1.frozen? ⟨w.heap.size + 1 + 1, 1, none⟩ = false := by simp [World.frozen?, kz]
  have y2 : w1.frozen? ⟨w.heap.size + 1 + 1, 2, none⟩ = false := by simp [World.frozen?, kz]
  have HKZ := Lib.hid kz
  have hsz : Hid (w.heap.size + 3 ≤ w1.heap.size) := by show _ ≤ _; have := hg1.size; simp at this; omega
  clear hg1 kz
  go_wp2_with fail
  refine (twithin_yes _ _ _ t0 t1 _).mono ?_; rintro e w2 ⟨rfl, rfl⟩
  obtain ⟨e0, e1, e2, cz, e4, e5, e6⟩ := ((HA.out.grown G1).hs).cells _ rfl 0 n4
  clear e0 e1 e2 e4 e5 e6
  rw [← smpD_at n4] at cz
  obtain ⟨zf, hzf⟩ : ∃ z, (smpD ss 0).z = z := ⟨_, rfl⟩
  rw [hzf] at cz
  simp only [Nat.zero_mul, Nat.add_zero] at cz
  have hmf : ∀ (fn : Fn) (first cap : Array Value) (w : World), (Instr.makeFunc fn first cap).run Try.prog w = .ok (.func fn first cap) w := fun _ _ _ _ => rfl
  go_upto_region 10 with (fail)
  have hs1 : w.heap.size + 2 < w1.heap.size := by have h9 := hsz.out; omega
  go_cut [9, 10] (fun s9 s10 wx => ∃ B C, s9 = .pointer (some ⟨B, 0, none⟩) ∧ s10 = .pointer (some ⟨C, 0, none⟩) ∧ ClS w th wx w1.heap.size B C (Ln.first zf) (Ln.first zf) (Ln.first zf) ∧ wx.cell? ⟨w.heap.size, 3, none⟩ = some (.slice (some ⟨b, off, none⟩) ss.length sc))
  case first => as_aux_lemma =>
    go_region
    all_goals
      go_wp2_with fail
      go_meet
      first
        | exact ⟨_, _, rfl, rfl, cls_start G1 tz HKZ.out hs1 _ _ (.inl ⟨rfl, rfl⟩), grown_cell (grown_trans (grown_trans (grown_trans (World.grownBy_alloc _ _ _) (World.grownBy_alloc _ _ _)) (World.grownBy_alloc _ _ _)) (grown_drewN _ _ 1)) b3⟩
        | exact ⟨_, _, rfl, rfl, cls_start G1 tz HKZ.out hs1 _ _ (.inr ⟨rfl, rfl⟩), grown_cell (grown_trans (grown_trans (grown_trans (World.grownBy_alloc _ _ _) (World.grownBy_alloc _ _ _)) (World.grownBy_alloc _ _ _)) (grown_drewN _ _ 1)) b3⟩
  case rest =>
    obtain ⟨B, C, rfl, rfl, hc0, b3⟩ := hcut
    have HC0 := Lib.hid hc0
    clear hc0 tz z0 z1 z2 y0 y1 y2
    go_wp2_with fail
    generalize hmm : ss.length - 1 = m
    have hm1 : ss.length = m + 1 := by omega
    have HM1 := Lib.hid hm1
    have m20 : (m : Int) ≤ 20000 := by omega
    have HR0 : Hid ((climbS th ⟨Ln.first zf, Ln.first zf, Ln.first zf⟩ ((ss.drop 1).drop 0)).best = r) := by
      show _ = _
      rw [← hr.out]
      cases hss : ss with
      | nil => rw [hss] at n4; simp at n4
      | cons x0 rest =>
        have hx : (smpD ss 0).z = x0.z := by rw [hss]; rfl
        rw [hzf] at hx
        rw [hx]; rfl
    have HF0 := HZ.out 0
    rw [hzf] at HF0
    have hbd0 := line_first HF0.1 HF0.2
    have HBD : Hid ((Ln.first zf).bd ((0 : Nat) : Int) ∧ (Ln.first zf).bd ((0 : Nat) : Int) ∧ (Ln.first zf).bd ((0 : Nat) : Int)) := ⟨hbd0, hbd0, hbd0⟩
    clear hmm hm1 b3 cz hzf HF0 hbd0 n1 n2 n3 n4 n5 n6 n7 hcap
    go_loopw [42] (fun iv wr => ∃ (k : Nat) (best low high : Ln), k ≤ m ∧ iv = .int .i64 k ∧ Hid (ClS w th wr w1.heap.size B C best low high) ∧ Hid ((climbS th ⟨best, low, high⟩ ((ss.drop 1).drop k)).best = r) ∧ Hid (best.bd k ∧ low.bd k ∧ high.bd k))
      (fun iv _ => m - (intOf iv).toNat)
    case atStart => exact ⟨0, _, _, _, Nat.zero_le _, rfl, HC0.out, HR0.out, HBD.out⟩
    case round =>
      obtain ⟨k, best, low, high, hk, rfl, hcs, hfin, hbd⟩ := hrel
      by_cases hlt : k < m
      · have hk1 : k + 1 < ss.length := by have := HM1.out; omega
        obtain ⟨c0, c1, c2, c3, c4, c5, c6⟩ := ((HA.out.grown hcs.out.g).hs).cells _ rfl (k + 1) hk1
        rw [← smpD_at hk1] at c0 c1 c2 c3 c4 c5 c6
        have had : off + (k + 1) * 7 = off + 7 + k * 7 := by omega
        rw [had] at c0 c1 c2 c3 c4 c5 c6
        have hz := HZ.out (k + 1)
        have hdr : (ss.drop 1).drop k = smpD ss (k + 1) :: (ss.drop 1).drop (k + 1) := by
          rw [List.drop_drop, List.drop_drop, Nat.add_comm 1 k, Nat.add_comm 1 (k + 1), List.drop_eq_getElem_cons hk1, smpD_at hk1]
        have hfin2 := hfin.out
        rw [hdr] at hfin2
        simp only [climbS] at hfin2
        have hkk : (k : Int) + 1 ≤ 20000 := by have := HM1.out; omega
        obtain ⟨bp, bq, bn, bm, bx, by_⟩ := bd_next (th := th) (s := ⟨best, low, high⟩) hbd.out.2.1 hbd.out.2.2 hz.1 hz.2
        have fl := bd_fits hbd.out.2.1 (by omega); have fh := bd_fits hbd.out.2.2 (by omega)
        have hfit : ∀ l : Ln, l.bd ((k : Int) + 1) → l.fits := fun l h => bd_fits h hkk
        have fp := hfit _ bp; have fq := hfit _ bq; have fn_ := hfit _ bn; have fm := hfit _ bm
        have hnn : (St.next th ⟨best, low, high⟩ (smpD ss (k + 1)).z).best = betterL th 0 (low.go (smpD ss (k + 1)).z) (high.go (smpD ss (k + 1)).z) := rfl
        have hnx : (St.next th ⟨best, low, high⟩ (smpD ss (k + 1)).z).low = betterL th (-1) low (St.next th ⟨best, low, high⟩ (smpD ss (k + 1)).z).best.more := rfl
        have hny : (St.next th ⟨best, low, high⟩ (smpD ss (k + 1)).z).high = betterL th 1 high (St.next th ⟨best, low, high⟩ (smpD ss (k + 1)).z).best.more := rfl
        simp only at bp bq
        have hst : ∀ q : St, q = ⟨q.best, q.low, q.high⟩ := fun _ => rfl
        rw [hst (St.next th ⟨best, low, high⟩ (smpD ss (k + 1)).z)] at hfin2
        generalize (St.next th ⟨best, low, high⟩ (smpD ss (k + 1)).z).best = N at *
        generalize (St.next th ⟨best, low, high⟩ (smpD ss (k + 1)).z).low = X at *
        generalize (St.next th ⟨best, low, high⟩ (smpD ss (k + 1)).z).high = Y at *
        generalize smpD ss (k + 1) = xx at *
        obtain ⟨xt, xx, xy, z, xp, xq, xs⟩ := xx
        simp only at c0 c1 c2 c3 c4 c5 c6 hz hnn hnx hny fp fq bp bq
        have hbd2 : Hid (N.bd ((k + 1 : Nat) : Int) ∧ X.bd ((k + 1 : Nat) : Int) ∧ Y.bd ((k + 1 : Nat) : Int)) := ⟨by rw [Int.natCast_add]; exact bn, by rw [Int.natCast_add]; exact bx, by rw [Int.natCast_add]; exact by_⟩
        have HFIN := Lib.hid hfin2
        obtain ⟨P, hP⟩ : ∃ P, low.go z = P := ⟨_, rfl⟩
        obtain ⟨Q, hQ⟩ : ∃ Q, high.go z = Q := ⟨_, rfl⟩
        rw [hP] at fp; rw [hQ] at fq
        rw [hP, hQ] at hnn
        have HTL : Hid (∀ W : World, Calls Try.prog 130 #[.agg #[.int .i64 low.up, .int .i64 low.down, .int .i64 low.turns, .int .i64 low.z], .int .i64 z] W fun e w' => e = .returned (.agg #[.int .i64 P.up, .int .i64 P.down, .int .i64 P.turns, .int .i64 P.z]) ∧ W.grownBy w' none) := fun W => to_is low z fl hz.1 hz.2 W (m := P) hP
        have HTH : Hid (∀ W : World, Calls Try.prog 130 #[.agg #[.int .i64 high.up, .int .i64 high.down, .int .i64 high.turns, .int .i64 high.z], .int .i64 z] W fun e w' => e = .returned (.agg #[.int .i64 Q.up, .int .i64 Q.down, .int .i64 Q.turns, .int .i64 Q.z]) ∧ W.grownBy w' none) := fun W => to_is high z fh hz.1 hz.2 W (m := Q) hQ
        have HBN : Hid (∀ W : World, W.cell? ⟨w.heap.size + 1, 0, none⟩ = some (.int .i64 th) → Calls Try.prog 128 #[.agg #[.int .i64 P.up, .int .i64 P.down, .int .i64 P.turns, .int .i64 P.z], .agg #[.int .i64 Q.up, .int .i64 Q.down, .int .i64 Q.turns, .int .i64 Q.z], .int .i64 0, .pointer (some ⟨w.heap.size + 1, 0, none⟩)] W fun e w' => e = .returned (.agg #[.int .i64 N.up, .int .i64 N.down, .int .i64 N.turns, .int .i64 N.z]) ∧ W.grownBy w' none) := fun W hW => better_is P Q 0 th (by omega) t0 t1 fp fq (w.heap.size + 1) W hW (r := N) hnn.symm
        have HBX : Hid (∀ W : World, W.cell? ⟨w.heap.size + 1, 0, none⟩ = some (.int .i64 th) → Calls Try.prog 128 #[.agg #[.int .i64 low.up, .int .i64 low.down, .int .i64 low.turns, .int .i64 low.z], .agg #[.int .i64 N.up, .int .i64 N.down, .int .i64 (N.turns + 1), .int .i64 N.z], .int .i64 (-1), .pointer (some ⟨w.heap.size + 1, 0, none⟩)] W fun e w' => e = .returned (.agg #[.int .i64 X.up, .int .i64 X.down, .int .i64 X.turns, .int .i64 X.z]) ∧ W.grownBy w' none) := fun W hW => better_is low N.more (-1) th (by omega) t0 t1 fl fm (w.heap.size + 1) W hW (r := X) hnx.symm
        have HBY : Hid (∀ W : World, W.cell? ⟨w.heap.size + 1, 0, none⟩ = some (.int .i64 th) → Calls Try.prog 128 #[.agg #[.int .i64 high.up, .int .i64 high.down, .int .i64 high.turns, .int .i64 high.z], .agg #[.int .i64 N.up, .int .i64 N.down, .int .i64 (N.turns + 1), .int .i64 N.z], .int .i64 1, .pointer (some ⟨w.heap.size + 1, 0, none⟩)] W fun e w' => e = .returned (.agg #[.int .i64 Y.up, .int .i64 Y.down, .int .i64 Y.turns, .int .i64 Y.z]) ∧ W.grownBy w' none) := fun W hW => better_is high N.more 1 th (by omega) t0 t1 fh fm (w.heap.size + 1) W hW (r := Y) hny.symm
        have nt0 : 0 ≤ N.turns := fn_.t0
        have nt1 : N.turns ≤ 100000 := fn_.t1
        clear hP hQ hnn hnx hny bp bq bn bm bx by_ fl fh fp fq fm fn_ hfit hst hbd hfin hfin2 hdr hz had hkk hk1
        have hXB := World.grownBy_alloc wr (.cells #[.int .i64 xt, .int .i64 xx, .int .i64 xy, .int .i64 z, .int .i64 xp, .int .i64 xq, .int .i64 xs] 28) none
        have HCX : Hid (ClS w th (wr.alloc (.cells #[.int .i64 xt, .int .i64 xx, .int .i64 xy, .int .i64 z, .int .i64 xp, .int .i64 xq, .int .i64 xs] 28)) w1.heap.size B C best low high) := Lib.hid (ClS.grown hcs.out hXB)
        have HCXd : Hid (ClS w th (wr.alloc (.cells #[.int .i64 xt, .int .i64 xx, .int .i64 xy, .int .i64 z, .int .i64 xp, .int .i64 xq, .int .i64 xs] 28)).drew w1.heap.size B C best low high) := Lib.hid (ClS.grown HCX.out (grown_drewN _ _ 1))
        have hBN := hcs.out.ha
        have hwrs : w.heap.size + 2 < wr.heap.size := by have := (Array.getElem?_eq_some_iff.1 hcs.out.a).1; omega
        have hAX : w1.heap.size < wr.heap.size := (Array.getElem?_eq_some_iff.1 hcs.out.a).1
        have hAB := hcs.out.ab; have hAC := hcs.out.ac
        have HSTEP : Hid (∀ W W' : World, (World.grownBy w W none ∧ World.cell? W ⟨w.heap.size + 1, 0, none⟩ = some (.int .i64 th) ∧ World.cell? W ⟨B, 0, none⟩ = some (.int .i64 low.up) ∧ World.cell? W ⟨B, 1, none⟩ = some (.int .i64 low.down) ∧ World.cell? W ⟨B, 2, none⟩ = some (.int .i64 low.turns) ∧ World.cell? W ⟨B, 3, none⟩ = some (.int .i64 low.z) ∧ World.cell? W ⟨C, 0, none⟩ = some (.int .i64 high.up) ∧ World.cell? W ⟨C, 1, none⟩ = some (.int .i64 high.down) ∧ World.cell? W ⟨C, 2, none⟩ = some (.int .i64 high.turns) ∧ World.cell? W ⟨C, 3, none⟩ = some (.int .i64 high.z) ∧ World.cell? W ⟨wr.heap.size, 3, none⟩ = some (.int .i64 z)) → W.grownBy W' none → (World.grownBy w W' none ∧ World.cell? W' ⟨w.heap.size + 1, 0, none⟩ = some (.int .i64 th) ∧ World.cell? W' ⟨B, 0, none⟩ = some (.int .i64 low.up) ∧ World.cell? W' ⟨B, 1, none⟩ = some (.int .i64 low.down) ∧ World.cell? W' ⟨B, 2, none⟩ = some (.int .i64 low.turns) ∧ World.cell? W' ⟨B, 3, none⟩ = some (.int .i64 low.z) ∧ World.cell? W' ⟨C, 0, none⟩ = some (.int .i64 high.up) ∧ World.cell? W' ⟨C, 1, none⟩ = some (.int .i64 high.down) ∧ World.cell? W' ⟨C, 2, none⟩ = some (.int .i64 high.turns) ∧ World.cell? W' ⟨C, 3, none⟩ = some (.int .i64 high.z) ∧ World.cell? W' ⟨wr.heap.size, 3, none⟩ = some (.int .i64 z))) := fun W W' h g => ⟨grown_trans h.1 g, grown_cell g h.2.1, grown_cell g h.2.2.1, grown_cell g h.2.2.2.1, grown_cell g h.2.2.2.2.1, grown_cell g h.2.2.2.2.2.1, grown_cell g h.2.2.2.2.2.2.1, grown_cell g h.2.2.2.2.2.2.2.1, grown_cell g h.2.2.2.2.2.2.2.2.1, grown_cell g h.2.2.2.2.2.2.2.2.2.1, grown_cell g h.2.2.2.2.2.2.2.2.2.2⟩
        have HSET : Hid (∀ (W : World) (g : Nat) (v0 v1 v2 v3 : Value), w.heap.size + 2 < g → (g ≠ B ∧ g ≠ C ∧ g ≠ wr.heap.size) → (World.grownBy w W none ∧ World.cell? W ⟨w.heap.size + 1, 0, none⟩ = some (.int .i64 th) ∧ World.cell? W ⟨B, 0, none⟩ = some (.int .i64 low.up) ∧ World.cell? W ⟨B, 1, none⟩ = some (.int .i64 low.down) ∧ World.cell? W ⟨B, 2, none⟩ = some (.int .i64 low.turns) ∧ World.cell? W ⟨B, 3, none⟩ = some (.int .i64 low.z) ∧ World.cell? W ⟨C, 0, none⟩ = some (.int .i64 high.up) ∧ World.cell? W ⟨C, 1, none⟩ = some (.int .i64 high.down) ∧ World.cell? W ⟨C, 2, none⟩ = some (.int .i64 high.turns) ∧ World.cell? W ⟨C, 3, none⟩ = some (.int .i64 high.z) ∧ World.cell? W ⟨wr.heap.size, 3, none⟩ = some (.int .i64 z)) → (World.grownBy w ((((World.setCell W ⟨g, 0, none⟩ v0).setCell ⟨g, 1, none⟩ v1).setCell ⟨g, 2, none⟩ v2).setCell ⟨g, 3, none⟩ v3) none ∧ World.cell? ((((World.setCell W ⟨g, 0, none⟩ v0).setCell ⟨g, 1, none⟩ v1).setCell ⟨g, 2, none⟩ v2).setCell ⟨g, 3, none⟩ v3) ⟨w.heap.size + 1, 0, none⟩ = some (.int .i64 th) ∧ World.cell? ((((World.setCell W ⟨g, 0, none⟩ v0).setCell ⟨g, 1, none⟩ v1).setCell ⟨g, 2, none⟩ v2).setCell ⟨g, 3, none⟩ v3) ⟨B, 0, none⟩ = some (.int .i64 low.up) ∧ World.cell? ((((World.setCell W ⟨g, 0, none⟩ v0).setCell ⟨g, 1, none⟩ v1).setCell ⟨g, 2, none⟩ v2).setCell ⟨g, 3, none⟩ v3) ⟨B, 1, none⟩ = some (.int .i64 low.down) ∧ World.cell? ((((World.setCell W ⟨g, 0, none⟩ v0).setCell ⟨g, 1, none⟩ v1).setCell ⟨g, 2, none⟩ v2).setCell ⟨g, 3, none⟩ v3) ⟨B, 2, none⟩ = some (.int .i64 low.turns) ∧ World.cell? ((((World.setCell W ⟨g, 0, none⟩ v0).setCell ⟨g, 1, none⟩ v1).setCell ⟨g, 2, none⟩ v2).setCell ⟨g, 3, none⟩ v3) ⟨B, 3, none⟩ = some (.int .i64 low.z) ∧ World.cell? ((((World.setCell W ⟨g, 0, none⟩ v0).setCell ⟨g, 1, none⟩ v1).setCell ⟨g, 2, none⟩ v2).setCell ⟨g, 3, none⟩ v3) ⟨C, 0, none⟩ = some (.int .i64 high.up) ∧ World.cell? ((((World.setCell W ⟨g, 0, none⟩ v0).setCell ⟨g, 1, none⟩ v1).setCell ⟨g, 2, none⟩ v2).setCell ⟨g, 3, none⟩ v3) ⟨C, 1, none⟩ = some (.int .i64 high.down) ∧ World.cell? ((((World.setCell W ⟨g, 0, none⟩ v0).setCell ⟨g, 1, none⟩ v1).setCell ⟨g, 2, none⟩ v2).setCell ⟨g, 3, none⟩ v3) ⟨C, 2, none⟩ = some (.int .i64 high.turns) ∧ World.cell? ((((World.setCell W ⟨g, 0, none⟩ v0).setCell ⟨g, 1, none⟩ v1).setCell ⟨g, 2, none⟩ v2).setCell ⟨g, 3, none⟩ v3) ⟨C, 3, none⟩ = some (.int .i64 high.z) ∧ World.cell? ((((World.setCell W ⟨g, 0, none⟩ v0).setCell ⟨g, 1, none⟩ v1).setCell ⟨g, 2, none⟩ v2).setCell ⟨g, 3, none⟩ v3) ⟨wr.heap.size, 3, none⟩ = some (.int .i64 z))) := fun W g v0 v1 v2 v3 q1 q2 h => by
          refine ⟨grown_set (grown_set (grown_set (grown_set h.1 (by omega) _ _) (by omega) _ _) (by omega) _ _) (by omega) _ _, ?_, ?_, ?_, ?_, ?_, ?_, ?_, ?_, ?_, ?_⟩
          · rw [World.cell?_setCell_other, World.cell?_setCell_other, World.cell?_setCell_other, World.cell?_setCell_other]
            · exact h.2.1
            all_goals (intro e; injection e with e1 _ _; omega)
          · rw [World.cell?_setCell_other, World.cell?_setCell_other, World.cell?_setCell_other, World.cell?_setCell_other]
            · exact h.2.2.1
            all_goals (intro e; injection e with e1 _ _; omega)
          · rw [World.cell?_setCell_other, World.cell?_setCell_other, World.cell?_setCell_other, World.cell?_setCell_other]
            · exact h.2.2.2.1
            all_goals (intro e; injection e with e1 _ _; omega)
          · rw [World.cell?_setCell_other, World.cell?_setCell_other, World.cell?_setCell_other, World.cell?_setCell_other]
            · exact h.2.2.2.2.1
            all_goals (intro e; injection e with e1 _ _; omega)
          · rw [World.cell?_setCell_other, World.cell?_setCell_other, World.cell?_setCell_other, World.cell?_setCell_other]
            · exact h.2.2.2.2.2.1
            all_goals (intro e; injection e with e1 _ _; omega)
          · rw [World.cell?_setCell_other, World.cell?_setCell_other, World.cell?_setCell_other, World.cell?_setCell_other]
            · exact h.2.2.2.2.2.2.1
            all_goals (intro e; injection e with e1 _ _; omega)
          · rw [World.cell?_setCell_other, World.cell?_setCell_other, World.cell?_setCell_other, World.cell?_setCell_other]
            · exact h.2.2.2.2.2.2.2.1
            all_goals (intro e; injection e with e1 _ _; omega)
          · rw [World.cell?_setCell_other, World.cell?_setCell_other, World.cell?_setCell_other, World.cell?_setCell_other]
            · exact h.2.2.2.2.2.2.2.2.1
            all_goals (intro e; injection e with e1 _ _; omega)
          · rw [World.cell?_setCell_other, World.cell?_setCell_other, World.cell?_setCell_other, World.cell?_setCell_other]
            · exact h.2.2.2.2.2.2.2.2.2.1
            all_goals (intro e; injection e with e1 _ _; omega)
          · rw [World.cell?_setCell_other, World.cell?_setCell_other, World.cell?_setCell_other, World.cell?_setCell_other]
            · exact h.2.2.2.2.2.2.2.2.2.2
            all_goals (intro e; injection e with e1 _ _; omega)
        have hcT : Hid (∀ W : World, (World.grownBy w W none ∧ World.cell? W ⟨w.heap.size + 1, 0, none⟩ = some (.int .i64 th) ∧ World.cell? W ⟨B, 0, none⟩ = some (.int .i64 low.up) ∧ World.cell? W ⟨B, 1, none⟩ = some (.int .i64 low.down) ∧ World.cell? W ⟨B, 2, none⟩ = some (.int .i64 low.turns) ∧ World.cell? W ⟨B, 3, none⟩ = some (.int .i64 low.z) ∧ World.cell? W ⟨C, 0, none⟩ = some (.int .i64 high.up) ∧ World.cell? W ⟨C, 1, none⟩ = some (.int .i64 high.down) ∧ World.cell? W ⟨C, 2, none⟩ = some (.int .i64 high.turns) ∧ World.cell? W ⟨C, 3, none⟩ = some (.int .i64 high.z) ∧ World.cell? W ⟨wr.heap.size, 3, none⟩ = some (.int .i64 z)) → World.cell? W ⟨w.heap.size + 1, 0, none⟩ = some (.int .i64 th)) := fun W h => h.2.1
        have HSD : Hid ((World.grownBy w (wr.alloc (.cells #[.int .i64 xt, .int .i64 xx, .int .i64 xy, .int .i64 z, .int .i64 xp, .int .i64 xq, .int .i64 xs] 28)).drew none ∧ World.cell? (wr.alloc (.cells #[.int .i64 xt, .int .i64 xx, .int .i64 xy, .int .i64 z, .int .i64 xp, .int .i64 xq, .int .i64 xs] 28)).drew ⟨w.heap.size + 1, 0, none⟩ = some (.int .i64 th) ∧ World.cell? (wr.alloc (.cells #[.int .i64 xt, .int .i64 xx, .int .i64 xy, .int .i64 z, .int .i64 xp, .int .i64 xq, .int .i64 xs] 28)).drew ⟨B, 0, none⟩ = some (.int .i64 low.up) ∧ World.cell? (wr.alloc (.cells #[.int .i64 xt, .int .i64 xx, .int .i64 xy, .int .i64 z, .int .i64 xp, .int .i64 xq, .int .i64 xs] 28)).drew ⟨B, 1, none⟩ = some (.int .i64 low.down) ∧ World.cell? (wr.alloc (.cells #[.int .i64 xt, .int .i64 xx, .int .i64 xy, .int .i64 z, .int .i64 xp, .int .i64 xq, .int .i64 xs] 28)).drew ⟨B, 2, none⟩ = some (.int .i64 low.turns) ∧ World.cell? (wr.alloc (.cells #[.int .i64 xt, .int .i64 xx, .int .i64 xy, .int .i64 z, .int .i64 xp, .int .i64 xq, .int .i64 xs] 28)).drew ⟨B, 3, none⟩ = some (.int .i64 low.z) ∧ World.cell? (wr.alloc (.cells #[.int .i64 xt, .int .i64 xx, .int .i64 xy, .int .i64 z, .int .i64 xp, .int .i64 xq, .int .i64 xs] 28)).drew ⟨C, 0, none⟩ = some (.int .i64 high.up) ∧ World.cell? (wr.alloc (.cells #[.int .i64 xt, .int .i64 xx, .int .i64 xy, .int .i64 z, .int .i64 xp, .int .i64 xq, .int .i64 xs] 28)).drew ⟨C, 1, none⟩ = some (.int .i64 high.down) ∧ World.cell? (wr.alloc (.cells #[.int .i64 xt, .int .i64 xx, .int .i64 xy, .int .i64 z, .int .i64 xp, .int .i64 xq, .int .i64 xs] 28)).drew ⟨C, 2, none⟩ = some (.int .i64 high.turns) ∧ World.cell? (wr.alloc (.cells #[.int .i64 xt, .int .i64 xx, .int .i64 xy, .int .i64 z, .int .i64 xp, .int .i64 xq, .int .i64 xs] 28)).drew ⟨C, 3, none⟩ = some (.int .i64 high.z) ∧ World.cell? (wr.alloc (.cells #[.int .i64 xt, .int .i64 xx, .int .i64 xy, .int .i64 z, .int .i64 xp, .int .i64 xq, .int .i64 xs] 28)).drew ⟨wr.heap.size, 3, none⟩ = some (.int .i64 z))) := by
          refine HSTEP.out (wr.alloc (.cells #[.int .i64 xt, .int .i64 xx, .int .i64 xy, .int .i64 z, .int .i64 xp, .int .i64 xq, .int .i64 xs] 28)) _ ⟨HCX.out.g, HCX.out.tz, HCX.out.b.cells.1, HCX.out.b.cells.2.1, HCX.out.b.cells.2.2.1, HCX.out.b.cells.2.2.2, HCX.out.c.cells.1, HCX.out.c.cells.2.1, HCX.out.c.cells.2.2.1, HCX.out.c.cells.2.2.2, by go_simp⟩ (grown_drewN _ _ 1)
        clear hXB
        go_upto_region 14 with (fail)
        clear c0 c1 c2 c3 c4 c5 c6
        go_cut [] (fun wx => ClS w th wx w1.heap.size B C N low high)
        case first => as_aux_lemma =>
          go_region_held3 (fun W => (World.grownBy w W none ∧ World.cell? W ⟨w.heap.size + 1, 0, none⟩ = some (.int .i64 th) ∧ World.cell? W ⟨B, 0, none⟩ = some (.int .i64 low.up) ∧ World.cell? W ⟨B, 1, none⟩ = some (.int .i64 low.down) ∧ World.cell? W ⟨B, 2, none⟩ = some (.int .i64 low.turns) ∧ World.cell? W ⟨B, 3, none⟩ = some (.int .i64 low.z) ∧ World.cell? W ⟨C, 0, none⟩ = some (.int .i64 high.up) ∧ World.cell? W ⟨C, 1, none⟩ = some (.int .i64 high.down) ∧ World.cell? W ⟨C, 2, none⟩ = some (.int .i64 high.turns) ∧ World.cell? W ⟨C, 3, none⟩ = some (.int .i64 high.z) ∧ World.cell? W ⟨wr.heap.size, 3, none⟩ = some (.int .i64 z))) (first | exact HSD.out | (refine HSTEP.out _ _ ?_ (by assumption) <;> assumption) | exact HSET.out _ _ _ _ _ _ hBN ⟨hAB, hAC, by omega⟩ (by assumption)) (first
            | (go_at_call 130; first | ((with_reducible refine (HTL.out _).mono ?_); rintro x w7 ⟨rfl, hg7⟩; have K7 : Hid (ClS w th w7 w1.heap.size B C best low high) := Lib.hid (ClS.grown (Hid.out (by assumption)) hg7)) | ((with_reducible refine (HTH.out _).mono ?_); rintro x w7 ⟨rfl, hg7⟩; have K7 : Hid (ClS w th w7 w1.heap.size B C best low high) := Lib.hid (ClS.grown (Hid.out (by assumption)) hg7)))
            | (go_at_call 128; (with_reducible refine (HBN.out _ (hcT.out _ (by assumption))).mono ?_); rintro x w8 ⟨rfl, hg8⟩; have K8 : Hid (ClS w th w8 w1.heap.size B C best low high) := Lib.hid (ClS.grown (Hid.out (by assumption)) hg8); have ka := K8.out.a.cells; obtain ⟨ka0, ka1, ka2, ka3⟩ := ka; have kf0 := K8.out.a.free 0; have kf1 := K8.out.a.free 1; have kf2 := K8.out.a.free 2; have kf3 := K8.out.a.free 3))
          all_goals
            go_wp2_with fail
            go_meet
            exact ClS.setA (Hid.out (by assumption)) N
        case rest =>
          have hc1 := hcut
          have KC := Lib.hid hc1
          have hB2 := hc1.hb; have hC2 := hc1.hc
          have hBD : B < wc.heap.size := (Array.getElem?_eq_some_iff.1 hc1.b).1
          have hCD : C < wc.heap.size := (Array.getElem?_eq_some_iff.1 hc1.c).1
          have hbc := hc1.bc
          have hcb : C ≠ B := fun e => hbc e.symm
          have ka := hc1.a.cells; obtain ⟨ka0, ka1, ka2, ka3⟩ := ka
          clear hc1 HCX HCXd HSTEP HSET HSD hcT hcut
          go_upto_region 17 with (fail)
          clear ka0 ka1 ka2 ka3
          have hMB := World.grownBy_alloc wc (.cells #[.int .i64 N.up, .int .i64 N.down, .int .i64 (N.turns + 1), .int .i64 N.z] 139) none
          have KM : Hid (ClS w th (wc.alloc (.cells #[.int .i64 N.up, .int .i64 N.down, .int .i64 (N.turns + 1), .int .i64 N.z] 139)) w1.heap.size B C N low high) := Lib.hid (ClS.grown KC.out hMB)
          have KMd : Hid (ClS w th (wc.alloc (.cells #[.int .i64 N.up, .int .i64 N.down, .int .i64 (N.turns + 1), .int .i64 N.z] 139)).drew w1.heap.size B C N low high) := Lib.hid (ClS.grown KM.out (grown_drewN _ _ 1))
          have HSTEP : Hid (∀ W W' : World, (World.grownBy w W none ∧ World.cell? W ⟨w.heap.size + 1, 0, none⟩ = some (.int .i64 th) ∧ World.cell? W ⟨wc.heap.size, 0, none⟩ = some (.int .i64 N.up) ∧ World.cell? W ⟨wc.heap.size, 1, none⟩ = some (.int .i64 N.down) ∧ World.cell? W ⟨wc.heap.size, 2, none⟩ = some (.int .i64 (N.turns + 1)) ∧ World.cell? W ⟨wc.heap.size, 3, none⟩ = some (.int .i64 N.z)) → W.grownBy W' none → (World.grownBy w W' none ∧ World.cell? W' ⟨w.heap.size + 1, 0, none⟩ = some (.int .i64 th) ∧ World.cell? W' ⟨wc.heap.size, 0, none⟩ = some (.int .i64 N.up) ∧ World.cell? W' ⟨wc.heap.size, 1, none⟩ = some (.int .i64 N.down) ∧ World.cell? W' ⟨wc.heap.size, 2, none⟩ = some (.int .i64 (N.turns + 1)) ∧ World.cell? W' ⟨wc.heap.size, 3, none⟩ = some (.int .i64 N.z))) := fun W W' h g => ⟨grown_trans h.1 g, grown_cell g h.2.1, grown_cell g h.2.2.1, grown_cell g h.2.2.2.1, grown_cell g h.2.2.2.2.1, grown_cell g h.2.2.2.2.2⟩
          have HSET : Hid (∀ (W : World) (g : Nat) (v0 v1 v2 v3 : Value), w.heap.size + 2 < g → g ≠ wc.heap.size → (World.grownBy w W none ∧ World.cell? W ⟨w.heap.size + 1, 0, none⟩ = some (.int .i64 th) ∧ World.cell? W ⟨wc.heap.size, 0, none⟩ = some (.int .i64 N.up) ∧ World.cell? W ⟨wc.heap.size, 1, none⟩ = some (.int .i64 N.down) ∧ World.cell? W ⟨wc.heap.size, 2, none⟩ = some (.int .i64 (N.turns + 1)) ∧ World.cell? W ⟨wc.heap.size, 3, none⟩ = some (.int .i64 N.z)) → (World.grownBy w ((((World.setCell W ⟨g, 0, none⟩ v0).setCell ⟨g, 1, none⟩ v1).setCell ⟨g, 2, none⟩ v2).setCell ⟨g, 3, none⟩ v3) none ∧ World.cell? ((((World.setCell W ⟨g, 0, none⟩ v0).setCell ⟨g, 1, none⟩ v1).setCell ⟨g, 2, none⟩ v2).setCell ⟨g, 3, none⟩ v3) ⟨w.heap.size + 1, 0, none⟩ = some (.int .i64 th) ∧ World.cell? ((((World.setCell W ⟨g, 0, none⟩ v0).setCell ⟨g, 1, none⟩ v1).setCell ⟨g, 2, none⟩ v2).setCell ⟨g, 3, none⟩ v3) ⟨wc.heap.size, 0, none⟩ = some (.int .i64 N.up) ∧ World.cell? ((((World.setCell W ⟨g, 0, none⟩ v0).setCell ⟨g, 1, none⟩ v1).setCell ⟨g, 2, none⟩ v2).setCell ⟨g, 3, none⟩ v3) ⟨wc.heap.size, 1, none⟩ = some (.int .i64 N.down) ∧ World.cell? ((((World.setCell W ⟨g, 0, none⟩ v0).setCell ⟨g, 1, none⟩ v1).setCell ⟨g, 2, none⟩ v2).setCell ⟨g, 3, none⟩ v3) ⟨wc.heap.size, 2, none⟩ = some (.int .i64 (N.turns + 1)) ∧ World.cell? ((((World.setCell W ⟨g, 0, none⟩ v0).setCell ⟨g, 1, none⟩ v1).setCell ⟨g, 2, none⟩ v2).setCell ⟨g, 3, none⟩ v3) ⟨wc.heap.size, 3, none⟩ = some (.int .i64 N.z))) := fun W g v0 v1 v2 v3 q1 q2 h => by
            refine ⟨grown_set (grown_set (grown_set (grown_set h.1 (by omega) _ _) (by omega) _ _) (by omega) _ _) (by omega) _ _, ?_, ?_, ?_, ?_, ?_⟩
            · rw [World.cell?_setCell_other, World.cell?_setCell_other, World.cell?_setCell_other, World.cell?_setCell_other]
              · exact h.2.1
              all_goals (intro e; injection e with e1 _ _; omega)
            · rw [World.cell?_setCell_other, World.cell?_setCell_other, World.cell?_setCell_other, World.cell?_setCell_other]
              · exact h.2.2.1
              all_goals (intro e; injection e with e1 _ _; omega)
            · rw [World.cell?_setCell_other, World.cell?_setCell_other, World.cell?_setCell_other, World.cell?_setCell_other]
              · exact h.2.2.2.1
              all_goals (intro e; injection e with e1 _ _; omega)
            · rw [World.cell?_setCell_other, World.cell?_setCell_other, World.cell?_setCell_other, World.cell?_setCell_other]
              · exact h.2.2.2.2.1
              all_goals (intro e; injection e with e1 _ _; omega)
            · rw [World.cell?_setCell_other, World.cell?_setCell_other, World.cell?_setCell_other, World.cell?_setCell_other]
              · exact h.2.2.2.2.2
              all_goals (intro e; injection e with e1 _ _; omega)
          have hcT : Hid (∀ W : World, (World.grownBy w W none ∧ World.cell? W ⟨w.heap.size + 1, 0, none⟩ = some (.int .i64 th) ∧ World.cell? W ⟨wc.heap.size, 0, none⟩ = some (.int .i64 N.up) ∧ World.cell? W ⟨wc.heap.size, 1, none⟩ = some (.int .i64 N.down) ∧ World.cell? W ⟨wc.heap.size, 2, none⟩ = some (.int .i64 (N.turns + 1)) ∧ World.cell? W ⟨wc.heap.size, 3, none⟩ = some (.int .i64 N.z)) → World.cell? W ⟨w.heap.size + 1, 0, none⟩ = some (.int .i64 th)) := fun W h => h.2.1
          have HSD : Hid ((World.grownBy w (wc.alloc (.cells #[.int .i64 N.up, .int .i64 N.down, .int .i64 (N.turns + 1), .int .i64 N.z] 139)).drew none ∧ World.cell? (wc.alloc (.cells #[.int .i64 N.up, .int .i64 N.down, .int .i64 (N.turns + 1), .int .i64 N.z] 139)).drew ⟨w.heap.size + 1, 0, none⟩ = some (.int .i64 th) ∧ World.cell? (wc.alloc (.cells #[.int .i64 N.up, .int .i64 N.down, .int .i64 (N.turns + 1), .int .i64 N.z] 139)).drew ⟨wc.heap.size, 0, none⟩ = some (.int .i64 N.up) ∧ World.cell? (wc.alloc (.cells #[.int .i64 N.up, .int .i64 N.down, .int .i64 (N.turns + 1), .int .i64 N.z] 139)).drew ⟨wc.heap.size, 1, none⟩ = some (.int .i64 N.down) ∧ World.cell? (wc.alloc (.cells #[.int .i64 N.up, .int .i64 N.down, .int .i64 (N.turns + 1), .int .i64 N.z] 139)).drew ⟨wc.heap.size, 2, none⟩ = some (.int .i64 (N.turns + 1)) ∧ World.cell? (wc.alloc (.cells #[.int .i64 N.up, .int .i64 N.down, .int .i64 (N.turns + 1), .int .i64 N.z] 139)).drew ⟨wc.heap.size, 3, none⟩ = some (.int .i64 N.z))) := by
            refine HSTEP.out (wc.alloc (.cells #[.int .i64 N.up, .int .i64 N.down, .int .i64 (N.turns + 1), .int .i64 N.z] 139)) _ ⟨KM.out.g, KM.out.tz, by go_simp, by go_simp, by go_simp, by go_simp⟩ (grown_drewN _ _ 1)
          clear hMB
          have hb := KC.out.b.cells; obtain ⟨hb0, hb1, hb2, hb3⟩ := hb
          have hd := KC.out.c.cells; obtain ⟨hd0, hd1, hd2, hd3⟩ := hd
          have he := KM.out.b.cells; obtain ⟨he0, he1, he2, he3⟩ := he
          have hf := KM.out.c.cells; obtain ⟨hf0, hf1, hf2, hf3⟩ := hf
          refine wp_region_noPanic ?_
          refine wp_region_held_drew (S := (fun W => (World.grownBy w W none ∧ World.cell? W ⟨w.heap.size + 1, 0, none⟩ = some (.int .i64 th) ∧ World.cell? W ⟨wc.heap.size, 0, none⟩ = some (.int .i64 N.up) ∧ World.cell? W ⟨wc.heap.size, 1, none⟩ = some (.int .i64 N.down) ∧ World.cell? W ⟨wc.heap.size, 2, none⟩ = some (.int .i64 (N.turns + 1)) ∧ World.cell? W ⟨wc.heap.size, 3, none⟩ = some (.int .i64 N.z)))) (by kernel_rfl) HSD.out (fun hHeld => ?_)
          refine wpAnyH_take (i := 0) (oi := { dst := some 63, op := Op.move (Operand.tmp 7), type := _, pos := _, after := #[], guard := none }) (v := ?_) rfl (by kernel_rfl) (by kernel_rfl) (by kernel_rfl) (fun _ _ _ h => h) (Or.inl ⟨by rfl, ?_⟩) (by assumption) ?_
          rotate_left
          · (intro w0 hSw; (try dsimp only at hSw); go_simp; try with_reducible rfl)
          try simp only [Act.put, List.setIfInBounds_toArray, List.set_cons_zero, List.set_cons_succ]
          refine wpAnyH_take (i := 2) (oi := { dst := some 65, op := Op.load 139 (Operand.tmp 13), type := 139, pos := _, after := #[], guard := none }) (v := ?_) rfl (by kernel_rfl) (by kernel_rfl) (by kernel_rfl) (fun _ _ _ h => h) (Or.inl ⟨by rfl, ?_⟩) (by assumption) ?_
          rotate_left
          · (intro w0 hSw; (try dsimp only at hSw); go_simp; try with_reducible rfl)
          try simp only [Act.put, List.setIfInBounds_toArray, List.set_cons_zero, List.set_cons_succ]
          refine wpAnyH_take (i := 4) (oi := { dst := some 67, op := Op.move (Operand.tmp 7), type := _, pos := _, after := #[], guard := none }) (v := ?_) rfl (by kernel_rfl) (by kernel_rfl) (by kernel_rfl) (fun _ _ _ h => h) (Or.inl ⟨by rfl, ?_⟩) (by assumption) ?_
          rotate_left
          · (intro w0 hSw; (try dsimp only at hSw); go_simp; try with_reducible rfl)
          try simp only [Act.put, List.setIfInBounds_toArray, List.set_cons_zero, List.set_cons_succ]
          refine wpAnyH_take (i := 6) (oi := { dst := some 69, op := Op.load 139 (Operand.tmp 13), type := 139, pos := _, after := #[], guard := none }) (v := ?_) rfl (by kernel_rfl) (by kernel_rfl) (by kernel_rfl) (fun _ _ _ h => h) (Or.inl ⟨by rfl, ?_⟩) (by assumption) ?_
          rotate_left
          · (intro w0 hSw; (try dsimp only at hSw); go_simp; try with_reducible rfl)
          try simp only [Act.put, List.setIfInBounds_toArray, List.set_cons_zero, List.set_cons_succ]
          refine wpAnyH_ready (rs := [1, 5]) (by kernel_rfl) (by simp) ?_
          refine AllReadyH.cons (o := { dst := some 64, op := Op.load 139 (Operand.tmp 9), type := 139, pos := _, after := #[], guard := none }) rfl (fun K hK => ?_) ?_
          · skip
            go_simp
            refine hK.out _ _ ?_ (fun hHeld => ?_)
            · (try dsimp only)
              first | (with_reducible exact HSD.out) | ((with_reducible refine HSTEP.out _ _ ?_ (by assumption)) <;> assumption) | (with_reducible exact HSET.out _ _ _ _ _ _ hB2 (Nat.ne_of_lt hBD) (by assumption)) | (with_reducible exact HSET.out _ _ _ _ _ _ hC2 (Nat.ne_of_lt hCD) (by assumption))
            clear hK K
            try simp only [Act.put, List.setIfInBounds_toArray, List.set_cons_zero, List.set_cons_succ]
            refine wpAnyH_ready (rs := [3, 5]) (by kernel_rfl) (by simp) ?_
            refine AllReadyH.cons (o := { dst := some 66, op := Op.call { callee := Callee.value (Operand.tmp 63), args := #[Operand.tmp 64, Operand.tmp 65, Operand.const (Value.int IntKind.i64 (-1))], argTypes := #[139, 139, 3] }, type := 139, pos := _, after := _, guard := none }) rfl (fun K hK => ?_) ?_
            · skip
              go_simp
              go_at_call 128
              with_reducible refine (HBX.out _ (hcT.out _ (by assumption))).mono ?_
              rintro x w7 ⟨rfl, hg7⟩; have K7 : Hid (ClS w th w7 w1.heap.size B C N low high) := Lib.hid (ClS.grown (Hid.out (by assumption)) hg7); have k7 := K7.out.c.cells; obtain ⟨k70, k71, k72, k73⟩ := k7
              try go_wp2_with fail
              refine hK.out _ _ ?_ (fun hHeld => ?_)
              · (try dsimp only)
                first | (with_reducible exact HSD.out) | ((with_reducible refine HSTEP.out _ _ ?_ (by assumption)) <;> assumption) | (with_reducible exact HSET.out _ _ _ _ _ _ hB2 (Nat.ne_of_lt hBD) (by assumption)) | (with_reducible exact HSET.out _ _ _ _ _ _ hC2 (Nat.ne_of_lt hCD) (by assumption))
              clear hK K
              try simp only [Act.put, List.setIfInBounds_toArray, List.set_cons_zero, List.set_cons_succ]
              refine wpAnyH_ready (rs := [5]) (by kernel_rfl) (by simp) ?_
              refine AllReadyH.cons (o := { dst := some 68, op := Op.load 139 (Operand.tmp 10), type := 139, pos := _, after := #[], guard := none }) rfl (fun K hK => ?_) AllReadyH.nil
              go_simp
              refine hK.out _ _ ?_ (fun hHeld => ?_)
              · (try dsimp only)
                first | (with_reducible exact HSD.out) | ((with_reducible refine HSTEP.out _ _ ?_ (by assumption)) <;> assumption) | (with_reducible exact HSET.out _ _ _ _ _ _ hB2 (Nat.ne_of_lt hBD) (by assumption)) | (with_reducible exact HSET.out _ _ _ _ _ _ hC2 (Nat.ne_of_lt hCD) (by assumption))
              clear hK K
              try simp only [Act.put, List.setIfInBounds_toArray, List.set_cons_zero, List.set_cons_succ]
              refine wpAnyH_ready (rs := [7]) (by kernel_rfl) (by simp) ?_
              refine AllReadyH.cons (o := { dst := some 70, op := Op.call { callee := Callee.value (Operand.tmp 67), args := #[Operand.tmp 68, Operand.tmp 69, Operand.const (Value.int IntKind.i64 1)], argTypes := #[139, 139, 3] }, type := 139, pos := _, after := _, guard := none }) rfl (fun K hK => ?_) AllReadyH.nil
              go_simp
              go_at_call 128
              with_reducible refine (HBY.out _ (hcT.out _ (by assumption))).mono ?_
              rintro x w8 ⟨rfl, hg8⟩; have K8 : Hid (ClS w th w8 w1.heap.size B C N low high) := Lib.hid (ClS.grown (Hid.out (by assumption)) hg8); have kb := K8.out.b.cells; have kc := K8.out.c.cells; obtain ⟨kb0, kb1, kb2, kb3⟩ := kb; obtain ⟨kc0, kc1, kc2, kc3⟩ := kc; have kf0 := K8.out.b.free 0; have kf1 := K8.out.b.free 1; have kf2 := K8.out.b.free 2; have kf3 := K8.out.b.free 3; have kg0 := K8.out.c.free 0; have kg1 := K8.out.c.free 1; have kg2 := K8.out.c.free 2; have kg3 := K8.out.c.free 3
              try go_wp2_with fail
              refine hK.out _ _ ?_ (fun hHeld => ?_)
              · (try dsimp only)
                first | (with_reducible exact HSD.out) | ((with_reducible refine HSTEP.out _ _ ?_ (by assumption)) <;> assumption) | (with_reducible exact HSET.out _ _ _ _ _ _ hB2 (Nat.ne_of_lt hBD) (by assumption)) | (with_reducible exact HSET.out _ _ _ _ _ _ hC2 (Nat.ne_of_lt hCD) (by assumption))
              clear hK K
              try simp only [Act.put, List.setIfInBounds_toArray, List.set_cons_zero, List.set_cons_succ]
              refine wpAnyH_ready (rs := [8]) (by kernel_rfl) (by simp) ?_
              refine AllReadyH.cons (o := { dst := none, op := Op.store 139 (Operand.tmp 9) (Operand.tmp 66), type := 0, pos := _, after := _, guard := none }) rfl (fun K hK => ?_) AllReadyH.nil
              go_simp
              refine hK.out _ _ ?_ (fun hHeld => ?_)
              · (try dsimp only)
                first | (with_reducible exact HSD.out) | ((with_reducible refine HSTEP.out _ _ ?_ (by assumption)) <;> assumption) | (with_reducible exact HSET.out _ _ _ _ _ _ hB2 (Nat.ne_of_lt hBD) (by assumption)) | (with_reducible exact HSET.out _ _ _ _ _ _ hC2 (Nat.ne_of_lt hCD) (by assumption))
              clear hK K
              try simp only [Act.put, List.setIfInBounds_toArray, List.set_cons_zero, List.set_cons_succ]
              refine wpAnyH_ready (rs := [9]) (by kernel_rfl) (by simp) ?_
              refine AllReadyH.cons (o := { dst := none, op := Op.store 139 (Operand.tmp 10) (Operand.tmp 70), type := 0, pos := _, after := _, guard := none }) rfl (fun K hK => ?_) AllReadyH.nil
              go_simp
              refine hK.out _ _ ?_ (fun hHeld => ?_)
              · (try dsimp only)
                first | (with_reducible exact HSD.out) | ((with_reducible refine HSTEP.out _ _ ?_ (by assumption)) <;> assumption) | (with_reducible exact HSET.out _ _ _ _ _ _ hB2 (Nat.ne_of_lt hBD) (by assumption)) | (with_reducible exact HSET.out _ _ _ _ _ _ hC2 (Nat.ne_of_lt hCD) (by assumption))
              clear hK K
              try simp only [Act.put, List.setIfInBounds_toArray, List.set_cons_zero, List.set_cons_succ]
              refine wpAnyH_done (by kernel_rfl) ?_ _
              refine NoPanic.normal ?_
              go_wp2_with fail
              go_roundw
              case rel => exact ⟨k + 1, N, X, Y, by omega, by go_num, ((((ClS.swap (Hid.out (by assumption))).setA X).swap.turn).setA Y).turn, HFIN.out, hbd2.out⟩
              case measure => simp [intOf]; omega
            refine AllReadyH.cons (o := { dst := some 68, op := Op.load 139 (Operand.tmp 10), type := 139, pos := _, after := #[], guard := none }) rfl (fun K hK => ?_) AllReadyH.nil
            go_simp
            refine hK.out _ _ ?_ (fun hHeld => ?_)
            · (try dsimp only)
              first | (with_reducible exact HSD.out) | ((with_reducible refine HSTEP.out _ _ ?_ (by assumption)) <;> assumption) | (with_reducible exact HSET.out _ _ _ _ _ _ hB2 (Nat.ne_of_lt hBD) (by assumption)) | (with_reducible exact HSET.out _ _ _ _ _ _ hC2 (Nat.ne_of_lt hCD) (by assumption))
            clear hK K
            try simp only [Act.put, List.setIfInBounds_toArray, List.set_cons_zero, List.set_cons_succ]
            refine wpAnyH_ready (rs := [3]) (by kernel_rfl) (by simp) ?_
            refine AllReadyH.cons (o := { dst := some 66, op := Op.call { callee := Callee.value (Operand.tmp 63), args := #[Operand.tmp 64, Operand.tmp 65, Operand.const (Value.int IntKind.i64 (-1))], argTypes := #[139, 139, 3] }, type := 139, pos := _, after := _, guard := none }) rfl (fun K hK => ?_) AllReadyH.nil
            go_simp
            go_at_call 128
            with_reducible refine (HBX.out _ (hcT.out _ (by assumption))).mono ?_
            rintro x w7 ⟨rfl, hg7⟩; have K7 : Hid (ClS w th w7 w1.heap.size B C N low high) := Lib.hid (ClS.grown (Hid.out (by assumption)) hg7); have k7 := K7.out.c.cells; obtain ⟨k70, k71, k72, k73⟩ := k7
            try go_wp2_with fail
            refine hK.out _ _ ?_ (fun hHeld => ?_)
            · (try dsimp only)
              first | (with_reducible exact HSD.out) | ((with_reducible refine HSTEP.out _ _ ?_ (by assumption)) <;> assumption) | (with_reducible exact HSET.out _ _ _ _ _ _ hB2 (Nat.ne_of_lt hBD) (by assumption)) | (with_reducible exact HSET.out _ _ _ _ _ _ hC2 (Nat.ne_of_lt hCD) (by assumption))
            clear hK K
            try simp only [Act.put, List.setIfInBounds_toArray, List.set_cons_zero, List.set_cons_succ]
            refine wpAnyH_ready (rs := [7]) (by kernel_rfl) (by simp) ?_
            refine AllReadyH.cons (o := { dst := some 70, op := Op.call { callee := Callee.value (Operand.tmp 67), args := #[Operand.tmp 68, Operand.tmp 69, Operand.const (Value.int IntKind.i64 1)], argTypes := #[139, 139, 3] }, type := 139, pos := _, after := _, guard := none }) rfl (fun K hK => ?_) AllReadyH.nil
            go_simp
            go_at_call 128
            with_reducible refine (HBY.out _ (hcT.out _ (by assumption))).mono ?_
            rintro x w8 ⟨rfl, hg8⟩; have K8 : Hid (ClS w th w8 w1.heap.size B C N low high) := Lib.hid (ClS.grown (Hid.out (by assumption)) hg8); have kb := K8.out.b.cells; have kc := K8.out.c.cells; obtain ⟨kb0, kb1, kb2, kb3⟩ := kb; obtain ⟨kc0, kc1, kc2, kc3⟩ := kc; have kf0 := K8.out.b.free 0; have kf1 := K8.out.b.free 1; have kf2 := K8.out.b.free 2; have kf3 := K8.out.b.free 3; have kg0 := K8.out.c.free 0; have kg1 := K8.out.c.free 1; have kg2 := K8.out.c.free 2; have kg3 := K8.out.c.free 3
            try go_wp2_with fail
            refine hK.out _ _ ?_ (fun hHeld => ?_)
            · (try dsimp only)
              first | (with_reducible exact HSD.out) | ((with_reducible refine HSTEP.out _ _ ?_ (by assumption)) <;> assumption) | (with_reducible exact HSET.out _ _ _ _ _ _ hB2 (Nat.ne_of_lt hBD) (by assumption)) | (with_reducible exact HSET.out _ _ _ _ _ _ hC2 (Nat.ne_of_lt hCD) (by assumption))
            clear hK K
            try simp only [Act.put, List.setIfInBounds_toArray, List.set_cons_zero, List.set_cons_succ]
            refine wpAnyH_ready (rs := [8]) (by kernel_rfl) (by simp) ?_
            refine AllReadyH.cons (o := { dst := none, op := Op.store 139 (Operand.tmp 9) (Operand.tmp 66), type := 0, pos := _, after := _, guard := none }) rfl (fun K hK => ?_) AllReadyH.nil
            go_simp
            refine hK.out _ _ ?_ (fun hHeld => ?_)
            · (try dsimp only)
              first | (with_reducible exact HSD.out) | ((with_reducible refine HSTEP.out _ _ ?_ (by assumption)) <;> assumption) | (with_reducible exact HSET.out _ _ _ _ _ _ hB2 (Nat.ne_of_lt hBD) (by assumption)) | (with_reducible exact HSET.out _ _ _ _ _ _ hC2 (Nat.ne_of_lt hCD) (by assumption))
            clear hK K
            try simp only [Act.put, List.setIfInBounds_toArray, List.set_cons_zero, List.set_cons_succ]
            refine wpAnyH_ready (rs := [9]) (by kernel_rfl) (by simp) ?_
            refine AllReadyH.cons (o := { dst := none, op := Op.store 139 (Operand.tmp 10) (Operand.tmp 70), type := 0, pos := _, after := _, guard := none }) rfl (fun K hK => ?_) AllReadyH.nil
            go_simp
            refine hK.out _ _ ?_ (fun hHeld => ?_)
            · (try dsimp only)
              first | (with_reducible exact HSD.out) | ((with_reducible refine HSTEP.out _ _ ?_ (by assumption)) <;> assumption) | (with_reducible exact HSET.out _ _ _ _ _ _ hB2 (Nat.ne_of_lt hBD) (by assumption)) | (with_reducible exact HSET.out _ _ _ _ _ _ hC2 (Nat.ne_of_lt hCD) (by assumption))
            clear hK K
            try simp only [Act.put, List.setIfInBounds_toArray, List.set_cons_zero, List.set_cons_succ]
            refine wpAnyH_done (by kernel_rfl) ?_ _
            refine NoPanic.normal ?_
            go_wp2_with fail
            go_roundw
            case rel => exact ⟨k + 1, N, X, Y, by omega, by go_num, ((((ClS.swap (Hid.out (by assumption))).setA X).swap.turn).setA Y).turn, HFIN.out, hbd2.out⟩
            case measure => simp [intOf]; omega
          refine AllReadyH.cons (o := { dst := some 68, op := Op.load 139 (Operand.tmp 10), type := 139, pos := _, after := #[], guard := none }) rfl (fun K hK => ?_) AllReadyH.nil
          go_simp
          refine hK.out _ _ ?_ (fun hHeld => ?_)
          · (try dsimp only)
            first | (with_reducible exact HSD.out) | ((with_reducible refine HSTEP.out _ _ ?_ (by assumption)) <;> assumption) | (with_reducible exact HSET.out _ _ _ _ _ _ hB2 (Nat.ne_of_lt hBD) (by assumption)) | (with_reducible exact HSET.out _ _ _ _ _ _ hC2 (Nat.ne_of_lt hCD) (by assumption))
          clear hK K
          try simp only [Act.put, List.setIfInBounds_toArray, List.set_cons_zero, List.set_cons_succ]
          refine wpAnyH_ready (rs := [1]) (by kernel_rfl) (by simp) ?_
          refine AllReadyH.cons (o := { dst := some 64, op := Op.load 139 (Operand.tmp 9), type := 139, pos := _, after := #[], guard := none }) rfl (fun K hK => ?_) AllReadyH.nil
          go_simp
          refine hK.out _ _ ?_ (fun hHeld => ?_)
          · (try dsimp only)
            first | (with_reducible exact HSD.out) | ((with_reducible refine HSTEP.out _ _ ?_ (by assumption)) <;> assumption) | (with_reducible exact HSET.out _ _ _ _ _ _ hB2 (Nat.ne_of_lt hBD) (by assumption)) | (with_reducible exact HSET.out _ _ _ _ _ _ hC2 (Nat.ne_of_lt hCD) (by assumption))
          clear hK K
          try simp only [Act.put, List.setIfInBounds_toArray, List.set_cons_zero, List.set_cons_succ]
          refine wpAnyH_ready (rs := [3]) (by kernel_rfl) (by simp) ?_
          refine AllReadyH.cons (o := { dst := some 66, op := Op.call { callee := Callee.value (Operand.tmp 63), args := #[Operand.tmp 64, Operand.tmp 65, Operand.const (Value.int IntKind.i64 (-1))], argTypes := #[139, 139, 3] }, type := 139, pos := _, after := _, guard := none }) rfl (fun K hK => ?_) AllReadyH.nil
          go_simp
          go_at_call 128
          with_reducible refine (HBX.out _ (hcT.out _ (by assumption))).mono ?_
          rintro x w7 ⟨rfl, hg7⟩; have K7 : Hid (ClS w th w7 w1.heap.size B C N low high) := Lib.hid (ClS.grown (Hid.out (by assumption)) hg7); have k7 := K7.out.c.cells; obtain ⟨k70, k71, k72, k73⟩ := k7
          try go_wp2_with fail
          refine hK.out _ _ ?_ (fun hHeld => ?_)
          · (try dsimp only)
            first | (with_reducible exact HSD.out) | ((with_reducible refine HSTEP.out _ _ ?_ (by assumption)) <;> assumption) | (with_reducible exact HSET.out _ _ _ _ _ _ hB2 (Nat.ne_of_lt hBD) (by assumption)) | (with_reducible exact HSET.out _ _ _ _ _ _ hC2 (Nat.ne_of_lt hCD) (by assumption))
          clear hK K
          try simp only [Act.put, List.setIfInBounds_toArray, List.set_cons_zero, List.set_cons_succ]
          refine wpAnyH_ready (rs := [7]) (by kernel_rfl) (by simp) ?_
          refine AllReadyH.cons (o := { dst := some 70, op := Op.call { callee := Callee.value (Operand.tmp 67), args := #[Operand.tmp 68, Operand.tmp 69, Operand.const (Value.int IntKind.i64 1)], argTypes := #[139, 139, 3] }, type := 139, pos := _, after := _, guard := none }) rfl (fun K hK => ?_) AllReadyH.nil
          go_simp
          go_at_call 128
          with_reducible refine (HBY.out _ (hcT.out _ (by assumption))).mono ?_
          rintro x w8 ⟨rfl, hg8⟩; have K8 : Hid (ClS w th w8 w1.heap.size B C N low high) := Lib.hid (ClS.grown (Hid.out (by assumption)) hg8); have kb := K8.out.b.cells; have kc := K8.out.c.cells; obtain ⟨kb0, kb1, kb2, kb3⟩ := kb; obtain ⟨kc0, kc1, kc2, kc3⟩ := kc; have kf0 := K8.out.b.free 0; have kf1 := K8.out.b.free 1; have kf2 := K8.out.b.free 2; have kf3 := K8.out.b.free 3; have kg0 := K8.out.c.free 0; have kg1 := K8.out.c.free 1; have kg2 := K8.out.c.free 2; have kg3 := K8.out.c.free 3
          try go_wp2_with fail
          refine hK.out _ _ ?_ (fun hHeld => ?_)
          · (try dsimp only)
            first | (with_reducible exact HSD.out) | ((with_reducible refine HSTEP.out _ _ ?_ (by assumption)) <;> assumption) | (with_reducible exact HSET.out _ _ _ _ _ _ hB2 (Nat.ne_of_lt hBD) (by assumption)) | (with_reducible exact HSET.out _ _ _ _ _ _ hC2 (Nat.ne_of_lt hCD) (by assumption))
          clear hK K
          try simp only [Act.put, List.setIfInBounds_toArray, List.set_cons_zero, List.set_cons_succ]
          refine wpAnyH_ready (rs := [8]) (by kernel_rfl) (by simp) ?_
          refine AllReadyH.cons (o := { dst := none, op := Op.store 139 (Operand.tmp 9) (Operand.tmp 66), type := 0, pos := _, after := _, guard := none }) rfl (fun K hK => ?_) AllReadyH.nil
          go_simp
          refine hK.out _ _ ?_ (fun hHeld => ?_)
          · (try dsimp only)
            first | (with_reducible exact HSD.out) | ((with_reducible refine HSTEP.out _ _ ?_ (by assumption)) <;> assumption) | (with_reducible exact HSET.out _ _ _ _ _ _ hB2 (Nat.ne_of_lt hBD) (by assumption)) | (with_reducible exact HSET.out _ _ _ _ _ _ hC2 (Nat.ne_of_lt hCD) (by assumption))
          clear hK K
          try simp only [Act.put, List.setIfInBounds_toArray, List.set_cons_zero, List.set_cons_succ]
          refine wpAnyH_ready (rs := [9]) (by kernel_rfl) (by simp) ?_
          refine AllReadyH.cons (o := { dst := none, op := Op.store 139 (Operand.tmp 10) (Operand.tmp 70), type := 0, pos := _, after := _, guard := none }) rfl (fun K hK => ?_) AllReadyH.nil
          go_simp
          refine hK.out _ _ ?_ (fun hHeld => ?_)
          · (try dsimp only)
            first | (with_reducible exact HSD.out) | ((with_reducible refine HSTEP.out _ _ ?_ (by assumption)) <;> assumption) | (with_reducible exact HSET.out _ _ _ _ _ _ hB2 (Nat.ne_of_lt hBD) (by assumption)) | (with_reducible exact HSET.out _ _ _ _ _ _ hC2 (Nat.ne_of_lt hCD) (by assumption))
          clear hK K
          try simp only [Act.put, List.setIfInBounds_toArray, List.set_cons_zero, List.set_cons_succ]
          refine wpAnyH_done (by kernel_rfl) ?_ _
          refine NoPanic.normal ?_
          go_wp2_with fail
          go_roundw
          case rel => exact ⟨k + 1, N, X, Y, by omega, by go_num, ((((ClS.swap (Hid.out (by assumption))).setA X).swap.turn).setA Y).turn, HFIN.out, hbd2.out⟩
          case measure => simp [intOf]; omega
      · have hkm : k = m := by omega
        have hf := hfin.out
        have hdn : (ss.drop 1).drop k = [] := by rw [List.drop_drop]; exact List.drop_eq_nil_of_le (by have := HM1.out; omega)
        rw [hdn] at hf
        simp only [climbS] at hf
        subst hf
        obtain ⟨q0, q1, q2, q3⟩ := hcs.out.a.cells
        have hkz := hcs.out.kz
        have z0 : wr.cell? ⟨w.heap.size + 1 + 1, 0, none⟩ = some (.int .i64 0) := by simp [World.cell?, hkz]
        have z1 : wr.cell? ⟨w.heap.size + 1 + 1, 1, none⟩ = some (.int .i64 0) := by simp [World.cell?, hkz]
        have z2 : wr.cell? ⟨w.heap.size + 1 + 1, 2, none⟩ = some (.int .i64 0) := by simp [World.cell?, hkz]
        have y0 : wr.frozen? ⟨w.heap.size + 1 + 1, 0, none⟩ = false := by simp [World.frozen?, hkz]
        have y1 : wr.frozen? ⟨w.heap.size + 1 + 1, 1, none⟩ = false := by simp [World.frozen?, hkz]
        have y2 : wr.frozen? ⟨w.heap.size + 1 + 1, 2, none⟩ = false := by simp [World.frozen?, hkz]
        have HG := Lib.hid hcs.out.g
        clear hcs hfin hbd hdn hkz
        go_wp2_with fail
        refine bodyPost_ret (v := .tuple #[.agg #[.int .i64 best.up, .int .i64 best.down, .int .i64 best.turns], .int .i64 0]) (by simp [results, Try.results68, go_sem, z0, z1, z2]) rfl ⟨rfl, ?_⟩
        exact grown_set (grown_set (grown_set HG.out (by omega) _ _) (by omega) _ _) (by omega) _ _

end Go.Proofs.Ytgkhhfojioepgaa
namespace Go.Proofs.Ytgkhhfojioepgaa
open Go.RowKit
set_option linter.unusedSimpArgs false
set_option linter.unusedVariables false

def hillL : List Smp := [⟨0, 0, 0, 0, -1, -1, -1⟩, ⟨1, 30, 40, 12, -1, -1, -1⟩, ⟨2, 60, 80, 2, -1, -1, -1⟩, ⟨3, 90, 120, 15, -1, -1, -1⟩]
def smpVs (x : Smp) : List Value := [.int .i64 x.t, .int .i64 x.x, .int .i64 x.y, .int .i64 x.z, .int .i64 x.p, .int .i64 x.q, .int .i64 x.s]
def hillVs (k : Nat) : List Value := (hillL.take k).flatMap smpVs
theorem info_smp : (Try.prog.info? 28).map (fun i => (i.zero, i.size, i.bytes)) = some (some (.agg #[.int .i64 0, .int .i64 0, .int .i64 0, .int .i64 0, .int .i64 0, .int .i64 0, .int .i64 0]), 7, 56) := by kernel_rfl

structure HillS (w wr : World) (k : Nat) (v : Value) : Prop where
  g : w.grownBy wr none
  h0 : wr.heap[w.heap.size]? = some (.cells #[.string ⟨#[]⟩, .int .i64 0, .int .i64 0, .slice none 0 0, .slice none 0 0, .slice none 0 0] 26 (0, 0))
  h1 : wr.heap[w.heap.size + 1]? = some (.cells #[.string ⟨#[97]⟩, .int .i64 1, .int .i64 0, v, .slice none 0 0, .slice none 0 0] 26 (0, 0))
  h2 : wr.heap[w.heap.size + 1 + 1]? = some (.cells #[.int .i64 0, .int .i64 12, .int .i64 2, .int .i64 15] 3 (0, 0))
  own : wr.ownsRow (w.heap.size + 3) 28 7 v k (hillVs k)
  sz : w.heap.size + 3 ≤ wr.heap.size

theorem cells_new (w : World) (x : Smp) : ∀ j u, (smpVs x)[j]? = some u → (w.alloc (.cells #[.int .i64 x.t, .int .i64 x.x, .int .i64 x.y, .int .i64 x.z, .int .i64 x.p, .int .i64 x.q, .int .i64 x.s] 28)).cell? ((⟨w.heap.size, 0, none⟩ : Addr).add j) = some u := by
  intro j u h
  have e : (⟨w.heap.size, 0, none⟩ : Addr).add j = ⟨w.heap.size, j, none⟩ := by unfold Addr.add; split <;> simp_all
  rw [e]
  have hh := heap_alloc_new w (.cells #[.int .i64 x.t, .int .i64 x.x, .int .i64 x.y, .int .i64 x.z, .int .i64 x.p, .int .i64 x.q, .int .i64 x.s] 28)
  unfold smpVs at h
  exact (cell_of_row _ _ j _ _ (0, 0) hh).trans (by simpa using h)
theorem ones (x : Smp) : ∀ u ∈ smpVs x, u.oneCell' = true := by
  intro u hu
  unfold smpVs at hu
  simp only [List.mem_cons, List.not_mem_nil, or_false] at hu
  rcases hu with rfl | rfl | rfl | rfl | rfl | rfl | rfl <;> rfl
theorem hill_step {w wr w2 : World} {k : Nat} {v : Value} {o : Obj} (hs : HillS w wr k v) (hg : (wr.alloc o).grownBy w2 v.ownBlock) :
    w.grownBy w2 none ∧ w2.heap[w.heap.size]? = wr.heap[w.heap.size]? ∧ w2.heap[w.heap.size + 1]? = wr.heap[w.heap.size + 1]? ∧ w2.heap[w.heap.size + 1 + 1]? = wr.heap[w.heap.size + 1 + 1]? ∧ w.heap.size + 3 ≤ w2.heap.size := by
  have hlt := hs.own.lt
  have hz := hs.sz
  have keep : ∀ i, i < w.heap.size + 3 → w2.heap[i]? = wr.heap[i]? := fun i hi => by
    rw [hg.block i (by simp; omega) (fun e => by have := (hlt i e.symm).1; omega), Below.heap_alloc _ _ _ (by omega)]
  refine ⟨grown_own hs.g hg (fun g e => by have := (hlt g e).1; omega), keep _ (by omega), keep _ (by omega), keep _ (by omega), ?_⟩
  have := hg.size; simp at this; omega
theorem hillVs_succ {k : Nat} (h : k < 4) : hillVs (k + 1) = hillVs k ++ smpVs (hillL[k]'(by simpa [hillL] using h)) := by
  unfold hillVs
  rw [List.take_succ_eq_append_getElem (by simpa [hillL] using h), List.flatMap_append]
  simp

theorem own_form {w : World} {base n : Nat} {e : TypeId} {size : Nat} {v : Value} {xs : List Value} (h : w.ownsRow base e size v (n + 1) xs) : ∃ g cap, v = .slice (some ⟨g, 0, none⟩) (n + 1) cap := by
  rcases h.2 with ⟨_, h0⟩ | ⟨g, cap, cur, h1, _⟩
  · omega
  · exact ⟨g, cap, h1⟩
theorem grown_set2 {w w1 : World} (h : w.grownBy w1 none) {b : Nat} (hb : w.heap.size ≤ b) (i : Nat) (v : Value) : w.grownBy (w1.setCell ⟨b, i, none⟩ v) none :=
  ⟨h.os, h.tape, h.output, by have := h.size; simp [World.setCell]; omega, fun k hk _ => by
    rw [Below.heap_setCell _ _ _ _ (by show k ≠ b; omega)]; exact h.block k hk (by simp)⟩
theorem own_below {w : World} {base n : Nat} {e : TypeId} {size : Nat} {v : Value} {xs : List Value} (h : w.ownsRow base e size v n xs) {a : Addr} (ha : a.block < base) (u : Value) : (w.setCell a u).ownsRow base e size v n xs :=
  ownsRow_setCell_below h ha u
theorem hill_set {w w2 : World} {k : Nat} {v v' : Value} (g : w.grownBy w2 none)
    (h0 : w2.heap[w.heap.size]? = some (.cells #[.string ⟨#[]⟩, .int .i64 0, .int .i64 0, .slice none 0 0, .slice none 0 0, .slice none 0 0] 26 (0, 0)))
    (h1 : w2.heap[w.heap.size + 1]? = some (.cells #[.string ⟨#[97]⟩, .int .i64 1, .int .i64 0, v, .slice none 0 0, .slice none 0 0] 26 (0, 0)))
    (h2 : w2.heap[w.heap.size + 1 + 1]? = some (.cells #[.int .i64 0, .int .i64 12, .int .i64 2, .int .i64 15] 3 (0, 0)))
    (sz : w.heap.size + 3 ≤ w2.heap.size) (own : w2.ownsRow (w.heap.size + 3) 28 7 v' k (hillVs k)) : HillS w (w2.setCell ⟨w.heap.size + 1, 3, none⟩ v') k v' := by
  refine ⟨grown_set2 g (by omega) _ _, ?_, ?_, ?_, own_below own (by show w.heap.size + 1 < _; omega) _, ?_⟩
  · rw [Below.heap_setCell _ _ _ _ (by show _ ≠ w.heap.size + 1; omega)]; exact h0
  · simp [World.setCell, Array.getElem?_modify, h1]
  · rw [Below.heap_setCell _ _ _ _ (by show _ ≠ w.heap.size + 1; omega)]; exact h2
  · simp [World.setCell]; exact sz
theorem hill_start (w : World) : HillS w (((w.alloc (.cells #[.string ⟨#[]⟩, .int .i64 0, .int .i64 0, .slice none 0 0, .slice none 0 0, .slice none 0 0] 26)).alloc (.cells #[.string ⟨#[97]⟩, .int .i64 1, .int .i64 0, .slice none 0 0, .slice none 0 0, .slice none 0 0] 26)).alloc (.cells #[.int .i64 0, .int .i64 12, .int .i64 2, .int .i64 15] 3)) 0 (.slice none 0 0) := by
  refine ⟨grown_trans (grown_trans (World.grownBy_alloc _ _ _) (World.grownBy_alloc _ _ _)) (World.grownBy_alloc _ _ _), ?_, ?_, ?_, World.ownsRow_nil _ _ _ _, by simp⟩
  · rw [Below.heap_alloc _ _ _ (by simp; omega), Below.heap_alloc _ _ _ (by simp)]; exact heap_alloc_new w _
  · rw [Below.heap_alloc _ _ _ (by simp)]
    have q := heap_alloc_new (w.alloc (.cells #[.string ⟨#[]⟩, .int .i64 0, .int .i64 0, .slice none 0 0, .slice none 0 0, .slice none 0 0] 26)) (.cells #[.string ⟨#[97]⟩, .int .i64 1, .int .i64 0, .slice none 0 0, .slice none 0 0, .slice none 0 0] 26)
    simpa using q
  · have q := heap_alloc_new ((w.alloc (.cells #[.string ⟨#[]⟩, .int .i64 0, .int .i64 0, .slice none 0 0, .slice none 0 0, .slice none 0 0] 26)).alloc (.cells #[.string ⟨#[97]⟩, .int .i64 1, .int .i64 0, .slice none 0 0, .slice none 0 0, .slice none 0 0] 26)) (.cells #[.int .i64 0, .int .i64 12, .int .i64 2, .int .i64 15] 3)
    simpa using q


set_option maxRecDepth 100000 in
set_option maxHeartbeats 3200000 in
theorem hill_any (w : World) : Calls Try.prog 67 #[] w fun x w' => (∃ g cap, x = .returned (.agg #[.string ⟨#[97]⟩, .int .i64 1, .int .i64 0, .slice (some ⟨g, 0, none⟩) 4 cap, .slice none 0 0, .slice none 0 0]) ∧ w'.ownsRow (w.heap.size + 3) 28 7 (.slice (some ⟨g, 0, none⟩) 4 cap) 4 (hillVs 4)) ∧ w.grownBy w' none := by
  obtain ⟨i0, hi, hz0, hz1, hz2⟩ := info_parts info_smp
  have HI := Lib.hid hi; have HZ0 := Lib.hid hz0; have HZ1 := Lib.hid hz1; have HZ2 := Lib.hid hz2
  clear hi hz0 hz1 hz2
  go_enter Try.func67, Try.ntmps67
  go_wp2_with fail
  go_loopw [7] (fun iv wr => ∃ (k : Nat) (i : Int) (v : Value), k ≤ 4 ∧ iv = .int .i64 i ∧ Hid (i = k) ∧ Hid (HillS w wr k v))
    (fun iv _ => 4 - (intOf iv).toNat)
  case atStart => exact ⟨0, 0, _, by omega, rfl, rfl, hill_start w⟩
  case round =>
    obtain ⟨k, i, v, hk, rfl, hi0, hS⟩ := hrel
    have hc : k = 0 ∨ k = 1 ∨ k = 2 ∨ k = 3 ∨ k = 4 := by omega
    rcases hc with rfl | rfl | rfl | rfl | rfl
    · obtain rfl : i = 0 := hi0.out
      have hs := hS.out
      have kz : wr.cell? ⟨w.heap.size + 1 + 1, 0, none⟩ = some (.int .i64 0) := by simp [World.cell?, hs.h2]
      have p3 : wr.cell? ⟨w.heap.size + 1, 3, none⟩ = some v := by simp [World.cell?, hs.h1]
      have OWN := Lib.hid hs.own
      have SZ := Lib.hid hs.sz
      have HCN := Lib.hid (cells_new wr ⟨0, 0, 0, 0, -1, -1, -1⟩)
      have hi := HI.out; have hz0 := HZ0.out; have hz1 := HZ1.out; have hz2 := HZ2.out
      clear hs
      go_wp2_with (at_builtin; refine wpList_append_own _ rfl _ _ 22 rfl (w.heap.size + 3) 28 i0 (.agg #[.int .i64 0, .int .i64 0, .int .i64 0, .int .i64 0, .int .i64 0, .int .i64 0, .int .i64 0]) 7 56 Try.underlying22 hi hz0 hz1 hz2 rfl (by decide) _ _ _ rfl (OWN.out.alloc _) ⟨wr.heap.size, 0, none⟩ 1 1 [.int .i64 0, .int .i64 0, .int .i64 0, .int .i64 0, .int .i64 (-1), .int .i64 (-1), .int .i64 (-1)] rfl rfl (HCN.out) (ones ⟨0, 0, 0, 0, -1, -1, -1⟩) (by unfold maxLen; omega) (by omega) (by have := SZ.out; simp; omega) ?_; intro v' w2 hown' hgrow' _; obtain ⟨g, cap, rfl⟩ := own_form hown'; obtain ⟨G2, e0, e1, e2, z2⟩ := hill_step hS.out hgrow'; rw [hS.out.h0] at e0; rw [hS.out.h1] at e1; rw [hS.out.h2] at e2; have c1 : w2.cell? ⟨w.heap.size + 1, 3, none⟩ = some v := (by simp [World.cell?, e1]); have f1 : w2.frozen? ⟨w.heap.size + 1, 3, none⟩ = false := (by simp [World.frozen?, e1]); have HE := Lib.hid (And.intro G2 (And.intro e0 (And.intro e1 (And.intro e2 z2)))); have HOW : Hid (w2.ownsRow (w.heap.size + 3) 28 7 (.slice (some ⟨g, 0, none⟩) 1 cap) 1 (hillVs 1)) := (by show World.ownsRow _ _ _ _ _ _ _; rw [hillVs_succ (by decide)]; exact hown'); clear G2 e0 e1 e2 z2 hown' hgrow' kz p3 hi hz0 hz1 hz2)
      go_roundw
      case rel => exact ⟨1, 1, _, by omega, by go_num, rfl, hill_set HE.out.1 HE.out.2.1 HE.out.2.2.1 HE.out.2.2.2.1 HE.out.2.2.2.2 HOW.out⟩
      case measure => simp [intOf]
    · obtain rfl : i = 1 := hi0.out
      have hs := hS.out
      have kz : wr.cell? ⟨w.heap.size + 1 + 1, 1, none⟩ = some (.int .i64 12) := by simp [World.cell?, hs.h2]
      have p3 : wr.cell? ⟨w.heap.size + 1, 3, none⟩ = some v := by simp [World.cell?, hs.h1]
      have OWN := Lib.hid hs.own
      have SZ := Lib.hid hs.sz
      have HCN := Lib.hid (cells_new wr ⟨1, 30, 40, 12, -1, -1, -1⟩)
      have hi := HI.out; have hz0 := HZ0.out; have hz1 := HZ1.out; have hz2 := HZ2.out
      clear hs
      go_wp2_with (at_builtin; refine wpList_append_own _ rfl _ _ 22 rfl (w.heap.size + 3) 28 i0 (.agg #[.int .i64 0, .int .i64 0, .int .i64 0, .int .i64 0, .int .i64 0, .int .i64 0, .int .i64 0]) 7 56 Try.underlying22 hi hz0 hz1 hz2 rfl (by decide) _ _ _ rfl (OWN.out.alloc _) ⟨wr.heap.size, 0, none⟩ 1 1 [.int .i64 1, .int .i64 30, .int .i64 40, .int .i64 12, .int .i64 (-1), .int .i64 (-1), .int .i64 (-1)] rfl rfl (HCN.out) (ones ⟨1, 30, 40, 12, -1, -1, -1⟩) (by unfold maxLen; omega) (by omega) (by have := SZ.out; simp; omega) ?_; intro v' w2 hown' hgrow' _; obtain ⟨g, cap, rfl⟩ := own_form hown'; obtain ⟨G2, e0, e1, e2, z2⟩ := hill_step hS.out hgrow'; rw [hS.out.h0] at e0; rw [hS.out.h1] at e1; rw [hS.out.h2] at e2; have c1 : w2.cell? ⟨w.heap.size + 1, 3, none⟩ = some v := (by simp [World.cell?, e1]); have f1 : w2.frozen? ⟨w.heap.size + 1, 3, none⟩ = false := (by simp [World.frozen?, e1]); have HE := Lib.hid (And.intro G2 (And.intro e0 (And.intro e1 (And.intro e2 z2)))); have HOW : Hid (w2.ownsRow (w.heap.size + 3) 28 7 (.slice (some ⟨g, 0, none⟩) 2 cap) 2 (hillVs 2)) := (by show World.ownsRow _ _ _ _ _ _ _; rw [hillVs_succ (by decide)]; exact hown'); clear G2 e0 e1 e2 z2 hown' hgrow' kz p3 hi hz0 hz1 hz2)
      go_roundw
      case rel => exact ⟨2, 2, _, by omega, by go_num, rfl, hill_set HE.out.1 HE.out.2.1 HE.out.2.2.1 HE.out.2.2.2.1 HE.out.2.2.2.2 HOW.out⟩
      case measure => simp [intOf]
    · obtain rfl : i = 2 := hi0.out
      have hs := hS.out
      have kz : wr.cell? ⟨w.heap.size + 1 + 1, 2, none⟩ = some (.int .i64 2) := by simp [World.cell?, hs.h2]
      have p3 : wr.cell? ⟨w.heap.size + 1, 3, none⟩ = some v := by simp [World.cell?, hs.h1]
      have OWN := Lib.hid hs.own
      have SZ := Lib.hid hs.sz
      have HCN := Lib.hid (cells_new wr ⟨2, 60, 80, 2, -1, -1, -1⟩)
      have hi := HI.out; have hz0 := HZ0.out; have hz1 := HZ1.out; have hz2 := HZ2.out
      clear hs
      go_wp2_with (at_builtin; refine wpList_append_own _ rfl _ _ 22 rfl (w.heap.size + 3) 28 i0 (.agg #[.int .i64 0, .int .i64 0, .int .i64 0, .int .i64 0, .int .i64 0, .int .i64 0, .int .i64 0]) 7 56 Try.underlying22 hi hz0 hz1 hz2 rfl (by decide) _ _ _ rfl (OWN.out.alloc _) ⟨wr.heap.size, 0, none⟩ 1 1 [.int .i64 2, .int .i64 60, .int .i64 80, .int .i64 2, .int .i64 (-1), .int .i64 (-1), .int .i64 (-1)] rfl rfl (HCN.out) (ones ⟨2, 60, 80, 2, -1, -1, -1⟩) (by unfold maxLen; omega) (by omega) (by have := SZ.out; simp; omega) ?_; intro v' w2 hown' hgrow' _; obtain ⟨g, cap, rfl⟩ := own_form hown'; obtain ⟨G2, e0, e1, e2, z2⟩ := hill_step hS.out hgrow'; rw [hS.out.h0] at e0; rw [hS.out.h1] at e1; rw [hS.out.h2] at e2; have c1 : w2.cell? ⟨w.heap.size + 1, 3, none⟩ = some v := (by simp [World.cell?, e1]); have f1 : w2.frozen? ⟨w.heap.size + 1, 3, none⟩ = false := (by simp [World.frozen?, e1]); have HE := Lib.hid (And.intro G2 (And.intro e0 (And.intro e1 (And.intro e2 z2)))); have HOW : Hid (w2.ownsRow (w.heap.size + 3) 28 7 (.slice (some ⟨g, 0, none⟩) 3 cap) 3 (hillVs 3)) := (by show World.ownsRow _ _ _ _ _ _ _; rw [hillVs_succ (by decide)]; exact hown'); clear G2 e0 e1 e2 z2 hown' hgrow' kz p3 hi hz0 hz1 hz2)
      go_roundw
      case rel => exact ⟨3, 3, _, by omega, by go_num, rfl, hill_set HE.out.1 HE.out.2.1 HE.out.2.2.1 HE.out.2.2.2.1 HE.out.2.2.2.2 HOW.out⟩
      case measure => simp [intOf]
    · obtain rfl : i = 3 := hi0.out
      have hs := hS.out
      have kz : wr.cell? ⟨w.heap.size + 1 + 1, 3, none⟩ = some (.int .i64 15) := by simp [World.cell?, hs.h2]
      have p3 : wr.cell? ⟨w.heap.size + 1, 3, none⟩ = some v := by simp [World.cell?, hs.h1]
      have OWN := Lib.hid hs.own
      have SZ := Lib.hid hs.sz
      have HCN := Lib.hid (cells_new wr ⟨3, 90, 120, 15, -1, -1, -1⟩)
      have hi := HI.out; have hz0 := HZ0.out; have hz1 := HZ1.out; have hz2 := HZ2.out
      clear hs
      go_wp2_with (at_builtin; refine wpList_append_own _ rfl _ _ 22 rfl (w.heap.size + 3) 28 i0 (.agg #[.int .i64 0, .int .i64 0, .int .i64 0, .int .i64 0, .int .i64 0, .int .i64 0, .int .i64 0]) 7 56 Try.underlying22 hi hz0 hz1 hz2 rfl (by decide) _ _ _ rfl (OWN.out.alloc _) ⟨wr.heap.size, 0, none⟩ 1 1 [.int .i64 3, .int .i64 90, .int .i64 120, .int .i64 15, .int .i64 (-1), .int .i64 (-1), .int .i64 (-1)] rfl rfl (HCN.out) (ones ⟨3, 90, 120, 15, -1, -1, -1⟩) (by unfold maxLen; omega) (by omega) (by have := SZ.out; simp; omega) ?_; intro v' w2 hown' hgrow' _; obtain ⟨g, cap, rfl⟩ := own_form hown'; obtain ⟨G2, e0, e1, e2, z2⟩ := hill_step hS.out hgrow'; rw [hS.out.h0] at e0; rw [hS.out.h1] at e1; rw [hS.out.h2] at e2; have c1 : w2.cell? ⟨w.heap.size + 1, 3, none⟩ = some v := (by simp [World.cell?, e1]); have f1 : w2.frozen? ⟨w.heap.size + 1, 3, none⟩ = false := (by simp [World.frozen?, e1]); have HE := Lib.hid (And.intro G2 (And.intro e0 (And.intro e1 (And.intro e2 z2)))); have HOW : Hid (w2.ownsRow (w.heap.size + 3) 28 7 (.slice (some ⟨g, 0, none⟩) 4 cap) 4 (hillVs 4)) := (by show World.ownsRow _ _ _ _ _ _ _; rw [hillVs_succ (by decide)]; exact hown'); clear G2 e0 e1 e2 z2 hown' hgrow' kz p3 hi hz0 hz1 hz2)
      go_roundw
      case rel => exact ⟨4, 4, _, by omega, by go_num, rfl, hill_set HE.out.1 HE.out.2.1 HE.out.2.2.1 HE.out.2.2.2.1 HE.out.2.2.2.2 HOW.out⟩
      case measure => simp [intOf]
    · obtain rfl : i = 4 := hi0.out
      have hs := hS.out
      obtain ⟨g, cap, rfl⟩ : ∃ g cap, v = .slice (some ⟨g, 0, none⟩) 4 cap := by
        rcases hs.own.2 with ⟨_, h0⟩ | ⟨g, cap, cur, h1, _⟩
        · omega
        · exact ⟨g, cap, h1⟩
      have OWN := Lib.hid hs.own
      have HG := Lib.hid hs.g
      have h0 := hs.h0; have h1 := hs.h1
      have p0 : wr.cell? ⟨w.heap.size + 1, 0, none⟩ = some (.string ⟨#[97]⟩) := by simp [World.cell?, h1]
      have p1 : wr.cell? ⟨w.heap.size + 1, 1, none⟩ = some (.int .i64 1) := by simp [World.cell?, h1]
      have p2 : wr.cell? ⟨w.heap.size + 1, 2, none⟩ = some (.int .i64 0) := by simp [World.cell?, h1]
      have p3 : wr.cell? ⟨w.heap.size + 1, 3, none⟩ = some (.slice (some ⟨g, 0, none⟩) 4 cap) := by simp [World.cell?, h1]
      have p4 : wr.cell? ⟨w.heap.size + 1, 4, none⟩ = some (.slice none 0 0) := by simp [World.cell?, h1]
      have p5 : wr.cell? ⟨w.heap.size + 1, 5, none⟩ = some (.slice none 0 0) := by simp [World.cell?, h1]
      have q0 : wr.cell? ⟨w.heap.size, 0, none⟩ = some (.string ⟨#[]⟩) := by simp [World.cell?, h0]
      have y0 : wr.frozen? ⟨w.heap.size, 0, none⟩ = false := by simp [World.frozen?, h0]
      have q1 : wr.cell? ⟨w.heap.size, 1, none⟩ = some (.int .i64 0) := by simp [World.cell?, h0]
      have y1 : wr.frozen? ⟨w.heap.size, 1, none⟩ = false := by simp [World.frozen?, h0]
      have q2 : wr.cell? ⟨w.heap.size, 2, none⟩ = some (.int .i64 0) := by simp [World.cell?, h0]
      have y2 : wr.frozen? ⟨w.heap.size, 2, none⟩ = false := by simp [World.frozen?, h0]
      have q3 : wr.cell? ⟨w.heap.size, 3, none⟩ = some (.slice none 0 0) := by simp [World.cell?, h0]
      have y3 : wr.frozen? ⟨w.heap.size, 3, none⟩ = false := by simp [World.frozen?, h0]
      have q4 : wr.cell? ⟨w.heap.size, 4, none⟩ = some (.slice none 0 0) := by simp [World.cell?, h0]
      have y4 : wr.frozen? ⟨w.heap.size, 4, none⟩ = false := by simp [World.frozen?, h0]
      have q5 : wr.cell? ⟨w.heap.size, 5, none⟩ = some (.slice none 0 0) := by simp [World.cell?, h0]
      have y5 : wr.frozen? ⟨w.heap.size, 5, none⟩ = false := by simp [World.frozen?, h0]
      clear hs h0 h1
      go_wp2_with fail
      refine bodyPost_ret (v := .agg #[.string ⟨#[97]⟩, .int .i64 1, .int .i64 0, .slice (some ⟨g, 0, none⟩) 4 cap, .slice none 0 0, .slice none 0 0]) (by simp [results, Try.results67, go_sem, q0, q1, q2, q3, q4, q5]) rfl ⟨⟨g, cap, rfl, ?_⟩, ?_⟩
      · exact own_below (own_below (own_below (own_below (own_below (own_below OWN.out (by show w.heap.size < _; omega) _) (by show w.heap.size < _; omega) _) (by show w.heap.size < _; omega) _) (by show w.heap.size < _; omega) _) (by show w.heap.size < _; omega) _) (by show w.heap.size < _; omega) _
      · exact grown_set2 (grown_set2 (grown_set2 (grown_set2 (grown_set2 (grown_set2 HG.out (Nat.le_refl _) _ _) (Nat.le_refl _) _ _) (Nat.le_refl _) _ _) (Nat.le_refl _) _ _) (Nat.le_refl _) _ _) (Nat.le_refl _) _ _
end Go.Proofs.Ytgkhhfojioepgaa
