/- The contract of the reference's Check. -/
import Derived.Test.YtgkhhfojioepgaaTRLap
namespace Go.Proofs.Ytgkhhfojioepgaa
open Go.RowKit
set_option linter.unusedSimpArgs false
set_option linter.unusedVariables false

theorem smpsE_samp {st : Int} {l : List Smp} {k : Nat} (h : k < l.length) : smpsE st (prevT l k) (l.drop k) = if sampF st (prevT l k) l[k] = 0 then smpsE st (prevT l (k + 1)) (l.drop (k + 1)) else sampF st (prevT l k) l[k] := by
  by_cases he : early (prevT l k) l[k].t
  · rw [smpsE_early h he, sampF, if_pos he, if_neg (by omega)]
  · by_cases hi : smpIn st l[k]
    · rw [smpsE_next h he hi, sampF, if_neg he, if_pos hi, if_pos rfl]
    · rw [smpsE_out h he hi, sampF, if_neg he, if_neg hi, if_neg (by omega)]
theorem sampF_pos {st : Int} {l : List Smp} {k : Nat} (h : k < l.length) (hp : ∀ p, prevT l k = some p → 0 ≤ p) (h0 : sampF st (prevT l k) l[k] = 0) : ∀ p, prevT l (k + 1) = some p → 0 ≤ p := by
  intro p hq
  rw [prevT_succ, List.getElem?_eq_getElem h] at hq
  have hq2 : l[k].t = p := by simpa using hq
  have hne : ¬ early (prevT l k) l[k].t := by
    intro he
    rw [sampF, if_pos he] at h0
    omega
  cases hb : prevT l k with
  | none => rw [hb] at hne; unfold early at hne; simp only [ne_eq, Decidable.not_not] at hne; omega
  | some q => rw [hb] at hne; have := hp q hb; unfold early at hne; simp only at hne; omega
theorem lapsE_lapF {sp : Int} {l : List LapV} {k : Nat} (h : k < l.length) : lapsE sp ((prevE l k).getD 0) (l.drop k) = if lapF sp (prevE l k) l[k] = 0 then lapsE sp ((prevE l (k + 1)).getD 0) (l.drop (k + 1)) else lapF sp (prevE l k) l[k] := by
  rw [lapsE_at h]
  have e : (prevE l (k + 1)).getD 0 = l[k].to_ := by rw [prevE_succ, List.getElem?_eq_getElem h]; rfl
  rw [e]
  unfold lapF
  by_cases h1 : l[k].fr < 0 ∨ l[k].to_ ≤ l[k].fr ∨ sp < l[k].to_
  · rw [if_pos h1, if_pos h1, if_neg (by omega)]
  · rw [if_neg h1, if_neg h1]
    have hs : l[k].fr < (prevE l k).getD 0 ↔ soon (prevE l k) l[k].fr := by
      cases prevE l k with
      | none => simp only [Option.getD_none, soon, iff_false]; omega
      | some q => rfl
    by_cases h2 : soon (prevE l k) l[k].fr
    · rw [if_pos (hs.2 h2), if_pos h2, if_neg (by omega)]
    · rw [if_neg (fun h => h2 (hs.1 h)), if_neg h2]
      by_cases h3 : lapNameB l[k].name = true
      · rw [if_pos h3, if_pos h3, if_pos rfl]
      · rw [if_neg h3, if_neg h3, if_neg (by omega)]

theorem rsample_any (nm : ByteArray) (sp st : Int) (so : Option Addr) (sc : Nat) (ss : List Smp) (lo : Option Addr) (lc : Nat) (ls : List LapV) (to_ : Option Addr) (tc : Nat) (ts : List ByteArray) (s0 : 0 ≤ st) (s1 : st ≤ 86399999999) (hl : (ss.length : Int) ≤ 9223372036854775807) (k : Nat) (hlt : k < ss.length) (w : World) (hs : SmpsAt w so ss) (hp : Hid (∀ p, prevT ss k = some p → 0 ≤ p)) {E : Int} (hE : Hid (sampF st (prevT ss k) ss[k] = E)) :
    Calls Try.prog 122 #[.agg #[.string nm, .int .i64 sp, .int .i64 st, .slice so ss.length sc, .slice lo ls.length lc, .slice to_ ts.length tc], .int .i64 k] w fun e w' => e = .returned (.int .i64 E) ∧ w.grownBy w' none := by
  have hne : ss ≠ [] := by intro e; rw [e] at hlt; simp at hlt
  match so, hs with
  | none, hs => exact absurd (hs.nil rfl) hne
  | some ⟨b, off, spt⟩, hs =>
    have h := hs.spot _ rfl hne
    simp only at h
    subst h
    exact rsample_some nm sp st b off sc ss lo lc ls to_ tc ts s0 s1 hl k hlt w hs hp hE
theorem rlap_any (nm : ByteArray) (sp st : Int) (so : Option Addr) (sc : Nat) (ss : List Smp) (lo : Option Addr) (lc : Nat) (ls : List LapV) (to_ : Option Addr) (tc : Nat) (ts : List ByteArray) (sl : (ss.length : Int) ≤ 9223372036854775807) (ll : (ls.length : Int) ≤ 9223372036854775807) (k : Nat) (hlt : k < ls.length) (w : World) (hs : SmpsAt w so ss) (hl : LapsAt w lo ls) {SPN : Int} (hsp : Hid (spanL ss = SPN)) {E : Int} (hE : Hid (lapF SPN (prevE ls k) ls[k] = E)) :
    Calls Try.prog 123 #[.agg #[.string nm, .int .i64 sp, .int .i64 st, .slice so ss.length sc, .slice lo ls.length lc, .slice to_ ts.length tc], .int .i64 k] w fun e w' => e = .returned (.int .i64 E) ∧ w.grownBy w' none := by
  have hne : ls ≠ [] := by intro e; rw [e] at hlt; simp at hlt
  match lo, hl with
  | none, hl => exact absurd (hl.nil rfl) hne
  | some ⟨b, off, spt⟩, hl =>
    have h := hl.spot _ rfl hne
    simp only at h
    subst h
    exact rlap_some nm sp st so sc ss b off lc ls to_ tc ts sl ll k hlt w hs hl hsp hE

set_option maxRecDepth 100000 in
set_option maxHeartbeats 6400000 in
theorem rcheck_any (a : Act) (w : World) (ha : ActAt w a) {E : Int} (hE : Hid (chkE a = E)) :
    Calls Try.prog 58 #[a.val] w fun e w' => e = .returned (.int .i64 E) ∧ w.grownBy w' none := by
  obtain ⟨nm, sp, st, so, sc, ss, lo, lc, ls, to_, tc, ts⟩ := a
  obtain ⟨ns, sl, ll, tl, hs, hl, ht⟩ := ha
  have CN := @chkE_name ⟨nm, sp, st, so, sc, ss, lo, lc, ls, to_, tc, ts⟩
  have CS := @chkE_sport ⟨nm, sp, st, so, sc, ss, lo, lc, ls, to_, tc, ts⟩
  have CT := @chkE_start ⟨nm, sp, st, so, sc, ss, lo, lc, ls, to_, tc, ts⟩
  have CZ := @chkE_size ⟨nm, sp, st, so, sc, ss, lo, lc, ls, to_, tc, ts⟩
  have CR := @chkE_rest ⟨nm, sp, st, so, sc, ss, lo, lc, ls, to_, tc, ts⟩
  rw [hE.out] at CN CS CT CZ CR
  simp only [Act.val] at *
  have NS := Lib.hid ns; have SL := Lib.hid sl; have LL := Lib.hid ll; have HS := Lib.hid hs; have HL := Lib.hid hl; have HT := Lib.hid ht
  clear ns hs hl ht hE
  cases hn : nameB nm with
  | false =>
    have HV : Hid (E = 8) := CN hn
    have HN := Lib.hid hn
    clear CN CS CT CZ CR hn
    go_enter Try.func58, Try.ntmps58
    go_wp2_with fail
    refine (rname_is nm NS.out _ HN).mono ?_; rintro e w1 ⟨rfl, rfl⟩
    go_wp2_with fail
    go_ret
    exact ⟨ret_int HV.out.symm, World.grownBy_alloc _ _ _⟩
  | true =>
    have HN := Lib.hid hn
    by_cases a1 : sp < 1
    · have HV : Hid (E = 7) := CS hn (.inl a1)
      clear CN CS CT CZ CR hn
      go_enter Try.func58, Try.ntmps58
      go_wp2_with fail
      refine (rname_is nm NS.out _ HN).mono ?_; rintro e w1 ⟨rfl, rfl⟩
      go_wp2_with fail
      refine (out_yes _ _ _ (.inl a1) _).mono ?_; rintro e w1 ⟨rfl, rfl⟩
      go_wp2_with fail
      go_ret
      exact ⟨ret_int HV.out.symm, World.grownBy_alloc _ _ _⟩
    by_cases a2 : 5 < sp
    · have HV : Hid (E = 7) := CS hn (.inr a2)
      clear CN CS CT CZ CR hn
      go_enter Try.func58, Try.ntmps58
      go_wp2_with fail
      refine (rname_is nm NS.out _ HN).mono ?_; rintro e w1 ⟨rfl, rfl⟩
      go_wp2_with fail
      refine (out_yes _ _ _ (.inr a2) _).mono ?_; rintro e w1 ⟨rfl, rfl⟩
      go_wp2_with fail
      go_ret
      exact ⟨ret_int HV.out.symm, World.grownBy_alloc _ _ _⟩
    by_cases a3 : st < 0
    · have HV : Hid (E = 9) := CT hn ⟨by omega, by omega⟩ (.inl a3)
      clear CN CS CT CZ CR hn
      go_enter Try.func58, Try.ntmps58
      go_wp2_with fail
      refine (rname_is nm NS.out _ HN).mono ?_; rintro e w1 ⟨rfl, rfl⟩
      go_wp2_with fail
      refine (out_no _ _ _ (by omega) (by omega) _).mono ?_; rintro e w1 ⟨rfl, rfl⟩
      go_wp2_with fail
      refine (out_yes _ _ _ (.inl a3) _).mono ?_; rintro e w1 ⟨rfl, rfl⟩
      go_wp2_with fail
      go_ret
      exact ⟨ret_int HV.out.symm, World.grownBy_alloc _ _ _⟩
    by_cases a4 : 86399999999 < st
    · have HV : Hid (E = 9) := CT hn ⟨by omega, by omega⟩ (.inr a4)
      clear CN CS CT CZ CR hn
      go_enter Try.func58, Try.ntmps58
      go_wp2_with fail
      refine (rname_is nm NS.out _ HN).mono ?_; rintro e w1 ⟨rfl, rfl⟩
      go_wp2_with fail
      refine (out_no _ _ _ (by omega) (by omega) _).mono ?_; rintro e w1 ⟨rfl, rfl⟩
      go_wp2_with fail
      refine (out_yes _ _ _ (.inr a4) _).mono ?_; rintro e w1 ⟨rfl, rfl⟩
      go_wp2_with fail
      go_ret
      exact ⟨ret_int HV.out.symm, World.grownBy_alloc _ _ _⟩
    by_cases a5 : 20000 < (ss.length : Int)
    · have HV : Hid (E = 3) := CZ hn ⟨by omega, by omega⟩ ⟨by omega, by omega⟩ (.inl a5)
      clear CN CS CT CZ CR hn
      go_enter Try.func58, Try.ntmps58
      go_wp2_with fail
      refine (rname_is nm NS.out _ HN).mono ?_; rintro e w1 ⟨rfl, rfl⟩
      go_wp2_with fail
      refine (out_no _ _ _ (by omega) (by omega) _).mono ?_; rintro e w1 ⟨rfl, rfl⟩
      go_wp2_with fail
      refine (out_no _ _ _ (by omega) (by omega) _).mono ?_; rintro e w1 ⟨rfl, rfl⟩
      go_wp2_with fail
      go_ret
      exact ⟨ret_int HV.out.symm, World.grownBy_alloc _ _ _⟩
    by_cases a6 : 200 < (ls.length : Int)
    · have HV : Hid (E = 3) := CZ hn ⟨by omega, by omega⟩ ⟨by omega, by omega⟩ (.inr (.inl a6))
      clear CN CS CT CZ CR hn
      go_enter Try.func58, Try.ntmps58
      go_wp2_with fail
      refine (rname_is nm NS.out _ HN).mono ?_; rintro e w1 ⟨rfl, rfl⟩
      go_wp2_with fail
      refine (out_no _ _ _ (by omega) (by omega) _).mono ?_; rintro e w1 ⟨rfl, rfl⟩
      go_wp2_with fail
      refine (out_no _ _ _ (by omega) (by omega) _).mono ?_; rintro e w1 ⟨rfl, rfl⟩
      go_wp2_with fail
      go_ret
      exact ⟨ret_int HV.out.symm, World.grownBy_alloc _ _ _⟩
    by_cases a7 : 20 < (ts.length : Int)
    · have HV : Hid (E = 3) := CZ hn ⟨by omega, by omega⟩ ⟨by omega, by omega⟩ (.inr (.inr a7))
      clear CN CS CT CZ CR hn
      go_enter Try.func58, Try.ntmps58
      go_wp2_with fail
      refine (rname_is nm NS.out _ HN).mono ?_; rintro e w1 ⟨rfl, rfl⟩
      go_wp2_with fail
      refine (out_no _ _ _ (by omega) (by omega) _).mono ?_; rintro e w1 ⟨rfl, rfl⟩
      go_wp2_with fail
      refine (out_no _ _ _ (by omega) (by omega) _).mono ?_; rintro e w1 ⟨rfl, rfl⟩
      go_wp2_with fail
      go_ret
      exact ⟨ret_int HV.out.symm, World.grownBy_alloc _ _ _⟩
    have hr := CR hn ⟨by omega, by omega⟩ ⟨by omega, by omega⟩ ⟨by omega, by omega, by omega⟩
    clear CN CS CT CZ CR hn
    have s0 : 0 ≤ st := by omega
    have s1 : st ≤ 86399999999 := by omega
    have sl2 : (ss.length : Int) ≤ 20000 := by omega
    have ll2 : (ls.length : Int) ≤ 200 := by omega
    have tl2 : (ts.length : Int) ≤ 20 := by omega
    obtain ⟨SPN, hsp⟩ : ∃ x, spanL ss = x := ⟨_, rfl⟩
    rw [hsp] at hr
    have HSP := Lib.hid hsp
    have HR := Lib.hid hr
    have hstep : ∀ W W' : World, (World.grownBy w W none ∧ World.cell? W ⟨w.heap.size, 0, none⟩ = some (.string nm) ∧ World.cell? W ⟨w.heap.size, 1, none⟩ = some (.int .i64 sp) ∧ World.cell? W ⟨w.heap.size, 2, none⟩ = some (.int .i64 st) ∧ World.cell? W ⟨w.heap.size, 3, none⟩ = some (.slice so ss.length sc) ∧ World.cell? W ⟨w.heap.size, 4, none⟩ = some (.slice lo ls.length lc) ∧ World.cell? W ⟨w.heap.size, 5, none⟩ = some (.slice to_ ts.length tc)) → W.grownBy W' none → (World.grownBy w W' none ∧ World.cell? W' ⟨w.heap.size, 0, none⟩ = some (.string nm) ∧ World.cell? W' ⟨w.heap.size, 1, none⟩ = some (.int .i64 sp) ∧ World.cell? W' ⟨w.heap.size, 2, none⟩ = some (.int .i64 st) ∧ World.cell? W' ⟨w.heap.size, 3, none⟩ = some (.slice so ss.length sc) ∧ World.cell? W' ⟨w.heap.size, 4, none⟩ = some (.slice lo ls.length lc) ∧ World.cell? W' ⟨w.heap.size, 5, none⟩ = some (.slice to_ ts.length tc)) := fun W W' h g => ⟨grown_trans h.1 g, grown_cell g h.2.1, grown_cell g h.2.2.1, grown_cell g h.2.2.2.1, grown_cell g h.2.2.2.2.1, grown_cell g h.2.2.2.2.2.1, grown_cell g h.2.2.2.2.2.2⟩
    have HSTEP := Lib.hid hstep
    clear hr hsp hstep
    go_enter Try.func58, Try.ntmps58
    go_wp2_with fail
    refine (rname_is nm NS.out _ HN).mono ?_; rintro e w1 ⟨rfl, rfl⟩
    go_wp2_with fail
    refine (out_no _ _ _ (by omega) (by omega) _).mono ?_; rintro e w1 ⟨rfl, rfl⟩
    go_wp2_with fail
    refine (out_no _ _ _ (by omega) (by omega) _).mono ?_; rintro e w1 ⟨rfl, rfl⟩
    go_wp2_with fail
    go_loopw [42] (fun iv wr => ∃ k : Nat, k ≤ ss.length ∧ iv = .int .i64 k ∧ (World.grownBy w wr none ∧ World.cell? wr ⟨w.heap.size, 0, none⟩ = some (.string nm) ∧ World.cell? wr ⟨w.heap.size, 1, none⟩ = some (.int .i64 sp) ∧ World.cell? wr ⟨w.heap.size, 2, none⟩ = some (.int .i64 st) ∧ World.cell? wr ⟨w.heap.size, 3, none⟩ = some (.slice so ss.length sc) ∧ World.cell? wr ⟨w.heap.size, 4, none⟩ = some (.slice lo ls.length lc) ∧ World.cell? wr ⟨w.heap.size, 5, none⟩ = some (.slice to_ ts.length tc)) ∧ Hid (smpsE st none ss = smpsE st (prevT ss k) (ss.drop k)) ∧ Hid (∀ p, prevT ss k = some p → 0 ≤ p))
      (fun iv _ => ss.length - (intOf iv).toNat)
    case atStart => exact ⟨0, Nat.zero_le _, rfl, ⟨World.grownBy_alloc _ _ _, by simp, by simp, by simp, by simp, by simp, by simp⟩, by show _ = _; rfl, fun p h => by simp [prevT] at h⟩
    case round =>
      obtain ⟨k, hk, rfl, hS, hw, hp⟩ := hrel
      have HSW := Lib.hid hS
      obtain ⟨G, f0, f1, f2, f3, f4, f5⟩ := hS
      by_cases hlt : k < ss.length
      · obtain ⟨ek, hek⟩ : ∃ e, sampF st (prevT ss k) ss[k] = e := ⟨_, rfl⟩
        have hstep := smpsE_samp (st := st) hlt
        rw [hek] at hstep
        have HEK := Lib.hid hek
        have HSS := Lib.hid (HS.out.grown G)
        by_cases hz : ek = 0
        · rw [if_pos hz] at hstep
          have HW : Hid (smpsE st none ss = smpsE st (prevT ss (k + 1)) (ss.drop (k + 1))) := Lib.hid (hw.out.trans hstep)
          have HP := Lib.hid (sampF_pos hlt hp.out (hek.trans hz))
          subst hz
          clear hstep hek hw
          go_wp2_with fail
          refine (rsample_any nm sp st so sc ss lo lc ls to_ tc ts s0 s1 SL.out k hlt _ HSS.out hp HEK).mono ?_; rintro e w1 ⟨rfl, hg1⟩
          have HN1 := HSTEP.out _ _ HSW.out hg1
          clear f0 f1 f2 f3 f4 f5 G hg1
          go_wp2_with fail
          go_roundw
          case rel => exact ⟨k + 1, by omega, by go_num, HN1, HW, HP⟩
          case measure => simp [intOf]; omega
        · rw [if_neg hz] at hstep
          have HV : Hid (E = ek) := by
            show _ = _
            have h1 := hw.out.trans hstep
            rw [HR.out, if_neg (by rw [h1]; exact hz)]; exact h1
          have hne : (ek != 0) = true := by simpa using hz
          clear hstep hek hw hz
          go_wp2_with fail
          refine (rsample_any nm sp st so sc ss lo lc ls to_ tc ts s0 s1 SL.out k hlt _ HSS.out hp HEK).mono ?_; rintro e w1 ⟨rfl, hg1⟩
          have G1 := grown_trans G hg1
          clear hg1
          go_wp2_with fail
          go_ret
          exact ⟨ret_int HV.out.symm, G1⟩
      · have h0 : smpsE st none ss = 0 := hw.out.trans (smpsE_end (by omega))
        have HR2 : Hid (E = if lapsE SPN 0 ls = 0 then tagsE none ts else lapsE SPN 0 ls) := by show _ = _; rw [HR.out, if_pos h0]
        clear h0 hw hp
        obtain ⟨wo, rfl⟩ : ∃ wo : World, wo = wr := ⟨_, rfl⟩
        have HSO := HSW; clear HSW
        go_wp2_with fail
        clear f0 f1 f2 f3 f4 f5 G
        go_loopw [55] (fun iv wr => ∃ k : Nat, k ≤ ls.length ∧ iv = .int .i64 k ∧ (World.grownBy w wr none ∧ World.cell? wr ⟨w.heap.size, 0, none⟩ = some (.string nm) ∧ World.cell? wr ⟨w.heap.size, 1, none⟩ = some (.int .i64 sp) ∧ World.cell? wr ⟨w.heap.size, 2, none⟩ = some (.int .i64 st) ∧ World.cell? wr ⟨w.heap.size, 3, none⟩ = some (.slice so ss.length sc) ∧ World.cell? wr ⟨w.heap.size, 4, none⟩ = some (.slice lo ls.length lc) ∧ World.cell? wr ⟨w.heap.size, 5, none⟩ = some (.slice to_ ts.length tc)) ∧ Hid (lapsE SPN 0 ls = lapsE SPN ((prevE ls k).getD 0) (ls.drop k)))
          (fun iv _ => ls.length - (intOf iv).toNat)
        case atStart => exact ⟨0, Nat.zero_le _, rfl, HSO.out, by show _ = _; rfl⟩
        case round =>
          obtain ⟨k2, hk2, rfl, hS, hw⟩ := hrel
          have HSW := Lib.hid hS
          obtain ⟨G, f0, f1, f2, f3, f4, f5⟩ := hS
          by_cases hlt2 : k2 < ls.length
          · obtain ⟨ek, hek⟩ : ∃ e, lapF SPN (prevE ls k2) ls[k2] = e := ⟨_, rfl⟩
            have hstep := lapsE_lapF (sp := SPN) hlt2
            rw [hek] at hstep
            have HEK := Lib.hid hek
            have HSS := Lib.hid (HS.out.grown G)
            have HLL := Lib.hid (HL.out.grown G)
            by_cases hz : ek = 0
            · rw [if_pos hz] at hstep
              have HW : Hid (lapsE SPN 0 ls = lapsE SPN ((prevE ls (k2 + 1)).getD 0) (ls.drop (k2 + 1))) := Lib.hid (hw.out.trans hstep)
              subst hz
              clear hstep hek hw
              go_wp2_with fail
              refine (rlap_any nm sp st so sc ss lo lc ls to_ tc ts SL.out LL.out k2 hlt2 _ HSS.out HLL.out HSP HEK).mono ?_; rintro e w1 ⟨rfl, hg1⟩
              have HN1 := HSTEP.out _ _ HSW.out hg1
              clear f0 f1 f2 f3 f4 f5 G hg1
              go_wp2_with fail
              go_roundw
              case rel => exact ⟨k2 + 1, by omega, by go_num, HN1, HW⟩
              case measure => simp [intOf]; omega
            · rw [if_neg hz] at hstep
              have HV : Hid (E = ek) := by
                show _ = _
                have h1 := hw.out.trans hstep
                rw [HR2.out, if_neg (by rw [h1]; exact hz)]; exact h1
              have hne : (ek != 0) = true := by simpa using hz
              clear hstep hek hw hz
              go_wp2_with fail
              refine (rlap_any nm sp st so sc ss lo lc ls to_ tc ts SL.out LL.out k2 hlt2 _ HSS.out HLL.out HSP HEK).mono ?_; rintro e w1 ⟨rfl, hg1⟩
              have G1 := grown_trans G hg1
              clear hg1
              go_wp2_with fail
              go_ret
              exact ⟨ret_int HV.out.symm, G1⟩
          · have h0 : lapsE SPN 0 ls = 0 := hw.out.trans (lapsE_end (by omega))
            have HR3 : Hid (tagsE none ts = E) := by show _ = _; rw [HR2.out, if_pos h0]
            clear h0 hw
            have HTT := Lib.hid (HT.out.grown G)
            obtain ⟨wq, rfl⟩ : ∃ wq : World, wq = wr := ⟨_, rfl⟩
            go_wp2_with fail
            go_loop [68] (fun iv => ∃ k : Nat, k ≤ ts.length ∧ iv = .int .i64 k ∧ Hid (tagsE (prevG ts k) (ts.drop k) = E))
              (fun iv => ts.length - (intOf iv).toNat)
            case atStart => exact ⟨0, Nat.zero_le _, rfl, HR3⟩
            case round =>
              obtain ⟨k3, hk3, rfl, hw⟩ := hrel
              by_cases hlt3 : k3 < ts.length
              · have hne3 : ts ≠ [] := by intro e; rw [e] at hlt3; simp at hlt3
                obtain ⟨b, off, hto⟩ : ∃ b off, to_ = some ⟨b, off, none⟩ := by
                  cases hto : to_ with
                  | none => exact absurd (HTT.out.nil hto) hne3
                  | some q => obtain ⟨b, off, s3⟩ := q; have := HTT.out.spot _ hto hne3; simp only at this; subst this; exact ⟨b, off, rfl⟩
                have c0 := HTT.out.cells _ hto k3 hlt3
                simp only at c0
                have hsz := HTT.out.sizes k3 hlt3
                have HW : Hid (_ = E) := Lib.hid ((tagsE_at (e := prevG ts k3) hlt3).symm.trans hw.out)
                obtain ⟨x, hx⟩ : ∃ x, ts[k3] = x := ⟨_, rfl⟩
                rw [hx] at c0 hsz HW
                have HZ := Lib.hid hsz; have HTO := Lib.hid hto
                rw [hto] at f5
                clear hsz hw hx
                by_cases a5 : nameB x = true
                · have H5 := Lib.hid a5
                  by_cases hk0 : k3 = 0
                  · have HE : Hid (tagsE (prevG ts (k3 + 1)) (ts.drop (k3 + 1)) = E) := by
                      show _ = _; rw [← HW.out, if_pos a5, hk0]; rfl
                    have e2 : decide (0 < (k3 : Int)) = false := by simp; omega
                    have e3 : decide (0 < k3) = false := by simp; omega
                    have HK := Lib.hid hk0
                    subst hto
                    clear HW a5 hk0
                    go_wp2_with (go_at_call 120; refine (rname_is x HZ.out _ H5).mono ?_; rintro e w1 ⟨rfl, rfl⟩)
                    go_round
                    case rel => exact ⟨k3 + 1, by omega, by go_num, HE⟩
                    case measure => simp [intOf]; omega
                  · obtain ⟨i, hki⟩ : ∃ i, k3 = i + 1 := ⟨k3 - 1, by omega⟩
                    have hi : i < ts.length := by omega
                    have c1 := HTT.out.cells _ hto i hi
                    simp only at c1
                    have hpv : prevG ts k3 = some ts[i] := by rw [hki, prevG_succ, List.getElem?_eq_getElem hi]
                    obtain ⟨y, hy⟩ : ∃ y, ts[i] = y := ⟨_, rfl⟩
                    rw [hy] at c1 hpv
                    have hs1 : soonT (prevG ts k3) x = leT x y := by rw [hpv]; rfl
                    have e2 : decide (0 < (k3 : Int)) = true := by simp; omega
                    have e3 : 0 < k3 := by omega
                    have ea : ((k3 : Int) - 1).toNat = i := by omega
                    have pa : (0 : Int) ≤ (k3 : Int) - 1 := by omega
                    have pb : (1 : Int) ≤ (k3 : Int) := by omega
                    have ba : (k3 : Int) - 1 < (ts.length : Int) := by omega
                    have HKI := Lib.hid hki
                    subst hto
                    clear hki hk0 hy
                    by_cases a6 : leT x y = true
                    · have HE : Hid (E = 10) := by show _ = _; rw [← HW.out, if_pos a5, if_pos (hs1.trans a6)]
                      have f1 : (Op.bytesLess x.toList y.toList || x.toList == y.toList) = true := a6
                      clear HW a5 hpv hs1 a6
                      go_wp2_with (go_at_call 120; refine (rname_is x HZ.out _ H5).mono ?_; rintro e w1 ⟨rfl, rfl⟩)
                      go_ret
                      exact ⟨ret_int HE.out.symm, G⟩
                    · have HE : Hid (tagsE (prevG ts (k3 + 1)) (ts.drop (k3 + 1)) = E) := by
                        show _ = _; rw [← HW.out, if_pos a5, if_neg (by rw [hs1]; exact a6)]
                      have f1 : (Op.bytesLess x.toList y.toList || x.toList == y.toList) = false := by unfold leT at a6; simpa using a6
                      clear HW a5 hpv hs1 a6
                      go_wp2_with (go_at_call 120; refine (rname_is x HZ.out _ H5).mono ?_; rintro e w1 ⟨rfl, rfl⟩)
                      go_round
                      case rel => exact ⟨k3 + 1, by omega, by go_num, HE⟩
                      case measure => simp [intOf]; omega
                · have HE : Hid (E = 8) := by show _ = _; rw [← HW.out, if_neg a5]
                  have H5 : Hid (nameB x = false) := by show _ = _; simpa using a5
                  subst hto
                  clear HW a5
                  go_wp2_with (go_at_call 120; refine (rname_is x HZ.out _ H5).mono ?_; rintro e w1 ⟨rfl, rfl⟩)
                  go_ret
                  exact ⟨ret_int HE.out.symm, G⟩
              · have HV : Hid (E = 0) := by show _ = _; rw [← hw.out]; exact tagsE_end (by omega)
                go_wp2_with fail
                go_ret
                exact ⟨ret_int HV.out.symm, G⟩

end Go.Proofs.Ytgkhhfojioepgaa
