/- Texts that all laws of this seat use, one behind the other. -/
import Derived.Test.YtgkhhfojioepgaaBaseA
import Derived.Deep.RegionHeld3
import Derived.Test.YtgkhhfojioepgaaFolA
import Derived.OwnWalk
namespace Go.Proofs.Ytgkhhfojioepgaa
open Go.RowKit
set_option linter.unusedSimpArgs false
set_option linter.unusedVariables false

theorem lapsE_end {sp e : Int} {l : List LapV} {k : Nat} (h : l.length ≤ k) : lapsE sp e (l.drop k) = 0 := by
  rw [List.drop_eq_nil_of_le h]; rfl
theorem lapsE_at {sp e : Int} {l : List LapV} {k : Nat} (h : k < l.length) : lapsE sp e (l.drop k) = if l[k].fr < 0 ∨ l[k].to_ ≤ l[k].fr ∨ sp < l[k].to_ then 9 else if l[k].fr < e then 10 else if lapNameB l[k].name = true then lapsE sp l[k].to_ (l.drop (k + 1)) else 8 := by
  rw [List.drop_eq_getElem_cons h, lapsE]

set_option maxHeartbeats 1600000 in
theorem chkLaps_some (span : Int) (b off cap : Nat) (ls : List LapV) (hl : (ls.length : Int) ≤ 9223372036854775807) (w : World) (hs : LapsAt w (some ⟨b, off, none⟩) ls) {E : Int} (hE : Hid (lapsE span 0 ls = E)) :
    Calls Try.prog 116 #[.slice (some ⟨b, off, none⟩) ls.length cap, .int .i64 span] w fun e w' => e = .returned (.int .i64 E) ∧ w.grownBy w' none := by
  have HS := Lib.hid hs; clear hs
  go_enter Try.func116, Try.ntmps116
  go_wp2
  go_loopw [5, 10] (fun ev iv wr => ∃ (k : Nat) (en : Int), k ≤ ls.length ∧ ev = .int .i64 en ∧ iv = .int .i64 k ∧ w.grownBy wr none ∧ Hid (lapsE span en (ls.drop k) = E))
    (fun _ iv _ => ls.length - (intOf iv).toNat)
  case atStart => exact ⟨0, 0, Nat.zero_le _, rfl, rfl, grown_refl _ _, hE.out⟩
  case round =>
    obtain ⟨k, en, hk, rfl, rfl, hg, hw⟩ := hrel
    by_cases hlt : k < ls.length
    · obtain ⟨c0, c1, c2⟩ := HS.out.cells _ rfl k hlt
      replace c0 := grown_cell hg c0; replace c1 := grown_cell hg c1; replace c2 := grown_cell hg c2
      simp only at c0 c1 c2
      have hsz := HS.out.sizes k hlt
      have HW : Hid (_ = E) := Lib.hid ((lapsE_at (sp := span) (e := en) hlt).symm.trans hw.out)
      generalize ls[k] = x at *
      obtain ⟨fr, tt, nm⟩ := x
      simp only at c0 c1 c2 HW hsz
      have HLT := Lib.hid hlt; have HZ := Lib.hid hsz
      clear hsz hw
      have G := grown_trans hg (World.grownBy_alloc wr (.cells #[.int .i64 fr, .int .i64 tt, .string nm] 77) none)
      by_cases a1 : fr < 0
      · have HE : Hid (E = 9) := by show _ = _; rw [← HW.out, if_pos (by omega)]
        clear HW
        go_wp2
        go_ret
        exact ⟨ret_int HE.out.symm, G⟩
      by_cases a2 : tt ≤ fr
      · have HE : Hid (E = 9) := by show _ = _; rw [← HW.out, if_pos (by omega)]
        clear HW
        go_wp2
        go_ret
        exact ⟨ret_int HE.out.symm, G⟩
      by_cases a3 : span < tt
      · have HE : Hid (E = 9) := by show _ = _; rw [← HW.out, if_pos (by omega)]
        clear HW
        go_wp2
        go_ret
        exact ⟨ret_int HE.out.symm, G⟩
      by_cases a4 : fr < en
      · have HE : Hid (E = 10) := by show _ = _; rw [← HW.out, if_neg (by omega), if_pos a4]
        clear HW
        go_wp2
        go_ret
        exact ⟨ret_int HE.out.symm, G⟩
      by_cases a5 : lapNameB nm = true
      · have HE : Hid (lapsE span tt (ls.drop (k + 1)) = E) := by show _ = _; rw [← HW.out, if_neg (by omega), if_neg a4, if_pos a5]
        have H5 := Lib.hid a5
        clear HW a5
        go_wp2_with (go_at_call 159; refine (isLapName_is nm HZ.out _ H5).mono ?_; rintro e w1 ⟨rfl, rfl⟩)
        go_roundw
        case rel => exact ⟨k + 1, tt, by have := HLT.out; omega, rfl, by go_num, G, HE⟩
        case measure => have := HLT.out; simp [intOf]; omega
      · have HE : Hid (E = 8) := by show _ = _; rw [← HW.out, if_neg (by omega), if_neg a4, if_neg a5]
        have H5 : Hid (lapNameB nm = false) := by show _ = _; simpa using a5
        clear HW a5
        go_wp2_with (go_at_call 159; refine (isLapName_is nm HZ.out _ H5).mono ?_; rintro e w1 ⟨rfl, rfl⟩)
        go_ret
        exact ⟨ret_int HE.out.symm, G⟩
    · have HV : Hid (E = 0) := by show _ = _; rw [← hw.out]; exact lapsE_end (by omega)
      go_wp2
      go_ret
      exact ⟨ret_int HV.out.symm, hg⟩

def prevG (l : List ByteArray) : Nat → Option ByteArray
  | 0 => none
  | k + 1 => l[k]?
theorem prevG_succ (l : List ByteArray) (k : Nat) : prevG l (k + 1) = l[k]? := rfl
theorem tagsE_end {e : Option ByteArray} {l : List ByteArray} {k : Nat} (h : l.length ≤ k) : tagsE e (l.drop k) = 0 := by
  rw [List.drop_eq_nil_of_le h]; rfl
theorem tagsE_at {e : Option ByteArray} {l : List ByteArray} {k : Nat} (h : k < l.length) : tagsE e (l.drop k) = if nameB l[k] = true then (if soonT e l[k] = true then 10 else tagsE (prevG l (k + 1)) (l.drop (k + 1))) else 8 := by
  rw [List.drop_eq_getElem_cons h, tagsE, prevG_succ, List.getElem?_eq_getElem h]

set_option maxHeartbeats 1600000 in
theorem chkTags_some (b off cap : Nat) (ts : List ByteArray) (hl : (ts.length : Int) ≤ 9223372036854775807) (w : World) (hs : TagsAt w (some ⟨b, off, none⟩) ts) {E : Int} (hE : Hid (tagsE none ts = E)) :
    Calls Try.prog 117 #[.slice (some ⟨b, off, none⟩) ts.length cap] w fun e w' => e = .returned (.int .i64 E) ∧ w = w' := by
  have HS := Lib.hid hs; clear hs
  go_enter Try.func117, Try.ntmps117
  go_wp2
  go_loop [7] (fun iv => ∃ (k : Nat), k ≤ ts.length ∧ iv = .int .i64 k ∧ Hid (tagsE (prevG ts k) (ts.drop k) = E))
    (fun iv => ts.length - (intOf iv).toNat)
  case atStart => exact ⟨0, Nat.zero_le _, rfl, hE.out⟩
  case round =>
    obtain ⟨k, hk, rfl, hw⟩ := hrel
    by_cases hlt : k < ts.length
    · have c0 := HS.out.cells _ rfl k hlt
      simp only at c0
      have hsz := HS.out.sizes k hlt
      have HW : Hid (_ = E) := Lib.hid ((tagsE_at (e := prevG ts k) hlt).symm.trans hw.out)
      generalize ts[k] = x at *
      have HLT := Lib.hid hlt; have HZ := Lib.hid hsz
      clear hsz hw
      by_cases a5 : nameB x = true
      · have H5 := Lib.hid a5
        by_cases hk0 : k = 0
        · have HE : Hid (tagsE (prevG ts (k + 1)) (ts.drop (k + 1)) = E) := by
            show _ = _; rw [← HW.out, if_pos a5, hk0]; rfl
          have e2 : decide (0 < (k : Int)) = false := by simp; omega
          have e3 : decide (0 < k) = false := by simp; omega
          have HK := Lib.hid hk0
          clear HW a5 hk0
          go_wp2_with (go_at_call 114; refine (isName_is x HZ.out _ H5).mono ?_; rintro e w1 ⟨rfl, rfl⟩)
          go_round
          case rel => exact ⟨k + 1, by have := HLT.out; omega, by go_num, HE⟩
          case measure => have := HLT.out; simp [intOf]; omega
        · obtain ⟨i, hki⟩ : ∃ i, k = i + 1 := ⟨k - 1, by omega⟩
          have hi : i < ts.length := by omega
          have c1 := HS.out.cells _ rfl i hi
          simp only at c1
          have hpv : prevG ts k = some ts[i] := by rw [hki, prevG_succ, List.getElem?_eq_getElem hi]
          generalize ts[i] = y at *
          have hs1 : soonT (prevG ts k) x = leT x y := by rw [hpv]; rfl
          have e2 : decide (0 < (k : Int)) = true := by simp; omega
          have e3 : 0 < k := by omega
          have ea : ((k : Int) - 1).toNat = i := by omega
          have pa : (0 : Int) ≤ (k : Int) - 1 := by omega
          have pb : (1 : Int) ≤ (k : Int) := by omega
          have ba : (k : Int) - 1 < (ts.length : Int) := by omega
          have HKI := Lib.hid hki
          clear hki hk0
          by_cases a6 : leT x y = true
          · have HE : Hid (E = 10) := by show _ = _; rw [← HW.out, if_pos a5, if_pos (hs1.trans a6)]
            have f1 : (Op.bytesLess x.toList y.toList || x.toList == y.toList) = true := a6
            clear HW a5 hpv hs1 a6
            go_wp2_with (go_at_call 114; refine (isName_is x HZ.out _ H5).mono ?_; rintro e w1 ⟨rfl, rfl⟩)
            go_ret
            exact ⟨ret_int HE.out.symm, rfl⟩
          · have HE : Hid (tagsE (prevG ts (k + 1)) (ts.drop (k + 1)) = E) := by
              show _ = _; rw [← HW.out, if_pos a5, if_neg (by rw [hs1]; exact a6)]
            have f1 : (Op.bytesLess x.toList y.toList || x.toList == y.toList) = false := by unfold leT at a6; simpa using a6
            clear HW a5 hpv hs1 a6
            go_wp2_with (go_at_call 114; refine (isName_is x HZ.out _ H5).mono ?_; rintro e w1 ⟨rfl, rfl⟩)
            go_round
            case rel => exact ⟨k + 1, by have := HLT.out; omega, by go_num, HE⟩
            case measure => have := HLT.out; simp [intOf]; omega
      · have HE : Hid (E = 8) := by show _ = _; rw [← HW.out, if_neg a5]
        have H5 : Hid (nameB x = false) := by show _ = _; simpa using a5
        clear HW a5
        go_wp2_with (go_at_call 114; refine (isName_is x HZ.out _ H5).mono ?_; rintro e w1 ⟨rfl, rfl⟩)
        go_ret
        exact ⟨ret_int HE.out.symm, rfl⟩
    · have HV : Hid (E = 0) := by show _ = _; rw [← hw.out]; exact tagsE_end (by omega)
      go_wp2
      go_ret
      exact ⟨ret_int HV.out.symm, rfl⟩

end Go.Proofs.Ytgkhhfojioepgaa
namespace Go.Proofs.Ytgkhhfojioepgaa
open Go.RowKit
set_option linter.unusedSimpArgs false
set_option linter.unusedVariables false

theorem chkSamples_any (start : Int) (h0 : 0 ≤ start) (h1 : start ≤ 86399999999) (ao : Option Addr) (cap : Nat) (ss : List Smp) (hl : (ss.length : Int) ≤ 9223372036854775807) (w : World) (hs : SmpsAt w ao ss) {E : Int} (hE : Hid (smpsE start none ss = E)) :
    Calls Try.prog 115 #[.int .i64 start, .slice ao ss.length cap] w fun e w' => e = .returned (.int .i64 E) ∧ w.grownBy w' none := by
  cases ss with
  | nil =>
    have HV : Hid (E = 0) := by show _ = _; rw [← hE.out]; rfl
    clear hs hE
    go_enter Try.func115, Try.ntmps115
    go_wp2
    refine wp_loop_rounds 1 ?_
    rw [rounds_succ]
    go_wp2
    go_ret
    exact ⟨ret_int HV.out.symm, grown_refl _ _⟩
  | cons x r =>
    match ao, hs with
    | none, hs => exact absurd (hs.nil rfl) (by simp)
    | some ⟨b, off, sp⟩, hs =>
      have h := hs.spot _ rfl (by simp)
      simp only at h
      subst h
      exact chkSamples_some start h0 h1 b off cap (x :: r) hl w hs hE
theorem chkLaps_any (span : Int) (ao : Option Addr) (cap : Nat) (ls : List LapV) (hl : (ls.length : Int) ≤ 9223372036854775807) (w : World) (hs : LapsAt w ao ls) {E : Int} (hE : Hid (lapsE span 0 ls = E)) :
    Calls Try.prog 116 #[.slice ao ls.length cap, .int .i64 span] w fun e w' => e = .returned (.int .i64 E) ∧ w.grownBy w' none := by
  cases ls with
  | nil =>
    have HV : Hid (E = 0) := by show _ = _; rw [← hE.out]; rfl
    clear hs hE
    go_enter Try.func116, Try.ntmps116
    go_wp2
    refine wp_loop_rounds 1 ?_
    rw [rounds_succ]
    go_wp2
    go_ret
    exact ⟨ret_int HV.out.symm, grown_refl _ _⟩
  | cons x r =>
    match ao, hs with
    | none, hs => exact absurd (hs.nil rfl) (by simp)
    | some ⟨b, off, sp⟩, hs =>
      have h := hs.spot _ rfl (by simp)
      simp only at h
      subst h
      exact chkLaps_some span b off cap (x :: r) hl w hs hE
theorem chkTags_any (ao : Option Addr) (cap : Nat) (ts : List ByteArray) (hl : (ts.length : Int) ≤ 9223372036854775807) (w : World) (hs : TagsAt w ao ts) {E : Int} (hE : Hid (tagsE none ts = E)) :
    Calls Try.prog 117 #[.slice ao ts.length cap] w fun e w' => e = .returned (.int .i64 E) ∧ w = w' := by
  cases ts with
  | nil =>
    have HV : Hid (E = 0) := by show _ = _; rw [← hE.out]; rfl
    clear hs hE
    go_enter Try.func117, Try.ntmps117
    go_wp2
    refine wp_loop_rounds 1 ?_
    rw [rounds_succ]
    go_wp2
    go_ret
    exact ⟨ret_int HV.out.symm, rfl⟩
  | cons x r =>
    match ao, hs with
    | none, hs => exact absurd (hs.nil rfl) (by simp)
    | some ⟨b, off, sp⟩, hs =>
      have h := hs.spot _ rfl (by simp)
      simp only at h
      subst h
      exact chkTags_some b off cap (x :: r) hl w hs hE

theorem spanL_at : ∀ {l : List Smp} {n : Nat} (h : l.length = n + 1), spanL l = (l[n]'(by omega)).t
  | [x], n, h => by
    obtain rfl : n = 0 := by simpa using h.symm
    rfl
  | _ :: y :: r, n, h => by
    obtain ⟨m, rfl⟩ : ∃ m, n = m + 1 := ⟨n - 1, by simp only [List.length_cons] at h; omega⟩
    have := spanL_at (l := y :: r) (n := m) (by simpa using h)
    simpa [spanL] using this

theorem span_some (a : Act) (b off n : Nat) (hso : a.so = some ⟨b, off, none⟩) (hn : a.ss.length = n + 1) (hl : (a.ss.length : Int) ≤ 9223372036854775807) (w : World) (hs : SmpsAt w a.so a.ss) {E : Int} (hE : Hid (spanL a.ss = E)) :
    Calls Try.prog 56 #[a.val] w fun e w' => e = .returned (.int .i64 E) ∧ w.grownBy w' none := by
  obtain ⟨nm, sp, st, so, sc, ss, lo, lc, ls, to_, tc, ts⟩ := a
  simp only [Act.val] at *
  subst hso
  have c0 := (hs.cells _ rfl n (by omega)).1
  have hv : (ss[n]'(by omega)).t = E := by rw [← hE.out]; exact (spanL_at hn).symm
  rw [hv] at c0
  simp only at c0
  have e0 : ((ss.length : Int) == 0) = false := by rw [beq_eq_false_iff_ne]; omega
  have ea : ((ss.length : Int) - 1).toNat = n := by omega
  have pa : (0 : Int) ≤ (ss.length : Int) - 1 := by omega
  have pb : (1 : Int) ≤ (ss.length : Int) := by omega
  have pc : 1 ≤ ss.length := by omega
  have HN := Lib.hid hn; have HS := Lib.hid hs
  clear hn hs hv hE
  go_enter Try.func56, Try.ntmps56
  have c1 := grown_cell (World.grownBy_alloc w (.cells #[.string nm, .int .i64 sp, .int .i64 st, .slice (some ⟨b, off, none⟩) ss.length sc, .slice lo ls.length lc, .slice to_ ts.length tc] 26) none) c0
  go_wp2
  go_ret
  exact ⟨rfl, World.grownBy_alloc _ _ _⟩
theorem span_any (a : Act) (hl : (a.ss.length : Int) ≤ 9223372036854775807) (w : World) (hs : SmpsAt w a.so a.ss) {E : Int} (hE : Hid (spanL a.ss = E)) :
    Calls Try.prog 56 #[a.val] w fun e w' => e = .returned (.int .i64 E) ∧ w.grownBy w' none := by
  obtain ⟨nm, sp, st, so, sc, ss, lo, lc, ls, to_, tc, ts⟩ := a
  cases ss with
  | nil =>
    have HV : Hid (E = 0) := by show _ = _; rw [← hE.out]; rfl
    simp only [Act.val, List.length_nil] at *
    clear hs hE hl
    go_enter Try.func56, Try.ntmps56
    go_wp2
    go_ret
    exact ⟨ret_int HV.out.symm, World.grownBy_alloc _ _ _⟩
  | cons x r =>
    match so, hs with
    | none, hs => exact absurd (hs.nil rfl) (by simp)
    | some ⟨b, off, spt⟩, hs =>
      have h := hs.spot _ rfl (by simp)
      simp only at h
      subst h
      exact span_some _ b off r.length rfl rfl hl w hs hE
end Go.Proofs.Ytgkhhfojioepgaa
namespace Go.Proofs.Ytgkhhfojioepgaa
open Go.RowKit
set_option linter.unusedSimpArgs false
set_option linter.unusedVariables false

theorem chkE_name {a : Act} (h : nameB a.name = false) : chkE a = 8 := by unfold chkE; rw [if_neg (by simp [h])]
theorem chkE_sport {a : Act} (h : nameB a.name = true) (h1 : a.sport < 1 ∨ 5 < a.sport) : chkE a = 7 := by unfold chkE; rw [if_pos h, if_neg (by omega)]
theorem chkE_start {a : Act} (h : nameB a.name = true) (h1 : 1 ≤ a.sport ∧ a.sport ≤ 5) (h2 : a.start < 0 ∨ 86399999999 < a.start) : chkE a = 9 := by unfold chkE; rw [if_pos h, if_pos h1, if_neg (by omega)]
theorem chkE_size {a : Act} (h : nameB a.name = true) (h1 : 1 ≤ a.sport ∧ a.sport ≤ 5) (h2 : 0 ≤ a.start ∧ a.start ≤ 86399999999) (h3 : 20000 < (a.ss.length : Int) ∨ 200 < (a.ls.length : Int) ∨ 20 < (a.ts.length : Int)) : chkE a = 3 := by unfold chkE; rw [if_pos h, if_pos h1, if_pos h2, if_neg (by omega)]
theorem chkE_rest {a : Act} (h : nameB a.name = true) (h1 : 1 ≤ a.sport ∧ a.sport ≤ 5) (h2 : 0 ≤ a.start ∧ a.start ≤ 86399999999) (h3 : (a.ss.length : Int) ≤ 20000 ∧ (a.ls.length : Int) ≤ 200 ∧ (a.ts.length : Int) ≤ 20) :
    chkE a = if smpsE a.start none a.ss = 0 then (if lapsE (spanL a.ss) 0 a.ls = 0 then tagsE none a.ts else lapsE (spanL a.ss) 0 a.ls) else smpsE a.start none a.ss := by unfold chkE; rw [if_pos h, if_pos h1, if_pos h2, if_pos h3]

set_option maxRecDepth 100000 in
set_option maxHeartbeats 3200000 in
theorem check_any (a : Act) (w : World) (ha : ActAt w a) {E : Int} (hE : Hid (chkE a = E)) :
    Calls Try.prog 54 #[a.val] w fun e w' => e = .returned (.int .i64 E) ∧ w.grownBy w' none := by
  obtain ⟨nm, sp, st, so, sc, ss, lo, lc, ls, to_, tc, ts⟩ := a
  obtain ⟨ns, sl, ll, tl, hs, hl, ht⟩ := ha
  have CN := @chkE_name ⟨nm, sp, st, so, sc, ss, lo, lc, ls, to_, tc, ts⟩
  have CS := @chkE_sport ⟨nm, sp, st, so, sc, ss, lo, lc, ls, to_, tc, ts⟩
  have CT := @chkE_start ⟨nm, sp, st, so, sc, ss, lo, lc, ls, to_, tc, ts⟩
  have CZ := @chkE_size ⟨nm, sp, st, so, sc, ss, lo, lc, ls, to_, tc, ts⟩
  have CR := @chkE_rest ⟨nm, sp, st, so, sc, ss, lo, lc, ls, to_, tc, ts⟩
  rw [hE.out] at CN CS CT CZ CR
  simp only [Act.val] at *
  have NS := Lib.hid ns; have SL := Lib.hid sl; have LL := Lib.hid ll; have TL := Lib.hid tl; have HS := Lib.hid hs; have HL := Lib.hid hl; have HT := Lib.hid ht
  have TL := Lib.hid tl
  clear ns hs hl ht hE
  cases hn : nameB nm with
  | false =>
    have HV : Hid (E = 8) := CN hn
    have HN := Lib.hid hn
    clear CN CS CT CZ CR hn
    go_enter Try.func54, Try.ntmps54
    go_wp2_with fail
    refine (isName_is nm NS.out _ HN).mono ?_; rintro e w1 ⟨rfl, rfl⟩
    go_wp2_with fail
    go_ret
    exact ⟨ret_int HV.out.symm, World.grownBy_alloc _ _ _⟩
  | true =>
    have HN := Lib.hid hn
    by_cases a1 : sp < 1
    · have HV : Hid (E = 7) := CS hn (.inl a1)
      clear CN CS CT CZ CR hn
      go_enter Try.func54, Try.ntmps54
      go_wp2_with fail
      refine (isName_is nm NS.out _ HN).mono ?_; rintro e w1 ⟨rfl, rfl⟩
      go_wp2_with fail
      go_ret
      exact ⟨ret_int HV.out.symm, World.grownBy_alloc _ _ _⟩
    by_cases a2 : 5 < sp
    · have HV : Hid (E = 7) := CS hn (.inr a2)
      clear CN CS CT CZ CR hn
      go_enter Try.func54, Try.ntmps54
      go_wp2_with fail
      refine (isName_is nm NS.out _ HN).mono ?_; rintro e w1 ⟨rfl, rfl⟩
      go_wp2_with fail
      go_ret
      exact ⟨ret_int HV.out.symm, World.grownBy_alloc _ _ _⟩
    by_cases a3 : st < 0
    · have HV : Hid (E = 9) := CT hn ⟨by omega, by omega⟩ (.inl a3)
      clear CN CS CT CZ CR hn
      go_enter Try.func54, Try.ntmps54
      go_wp2_with fail
      refine (isName_is nm NS.out _ HN).mono ?_; rintro e w1 ⟨rfl, rfl⟩
      go_wp2_with fail
      go_ret
      exact ⟨ret_int HV.out.symm, World.grownBy_alloc _ _ _⟩
    by_cases a4 : 86399999999 < st
    · have HV : Hid (E = 9) := CT hn ⟨by omega, by omega⟩ (.inr a4)
      clear CN CS CT CZ CR hn
      go_enter Try.func54, Try.ntmps54
      go_wp2_with fail
      refine (isName_is nm NS.out _ HN).mono ?_; rintro e w1 ⟨rfl, rfl⟩
      go_wp2_with fail
      go_ret
      exact ⟨ret_int HV.out.symm, World.grownBy_alloc _ _ _⟩
    by_cases a5 : 20000 < (ss.length : Int)
    · have HV : Hid (E = 3) := CZ hn ⟨by omega, by omega⟩ ⟨by omega, by omega⟩ (.inl a5)
      clear CN CS CT CZ CR hn
      go_enter Try.func54, Try.ntmps54
      go_wp2_with fail
      refine (isName_is nm NS.out _ HN).mono ?_; rintro e w1 ⟨rfl, rfl⟩
      go_wp2_with fail
      go_ret
      exact ⟨ret_int HV.out.symm, World.grownBy_alloc _ _ _⟩
    by_cases a6 : 200 < (ls.length : Int)
    · have HV : Hid (E = 3) := CZ hn ⟨by omega, by omega⟩ ⟨by omega, by omega⟩ (.inr (.inl a6))
      clear CN CS CT CZ CR hn
      go_enter Try.func54, Try.ntmps54
      go_wp2_with fail
      refine (isName_is nm NS.out _ HN).mono ?_; rintro e w1 ⟨rfl, rfl⟩
      go_wp2_with fail
      go_ret
      exact ⟨ret_int HV.out.symm, World.grownBy_alloc _ _ _⟩
    by_cases a7 : 20 < (ts.length : Int)
    · have HV : Hid (E = 3) := CZ hn ⟨by omega, by omega⟩ ⟨by omega, by omega⟩ (.inr (.inr a7))
      clear CN CS CT CZ CR hn
      go_enter Try.func54, Try.ntmps54
      go_wp2_with fail
      refine (isName_is nm NS.out _ HN).mono ?_; rintro e w1 ⟨rfl, rfl⟩
      go_wp2_with fail
      go_ret
      exact ⟨ret_int HV.out.symm, World.grownBy_alloc _ _ _⟩
    have hr := CR hn ⟨by omega, by omega⟩ ⟨by omega, by omega⟩ ⟨by omega, by omega, by omega⟩
    clear CN CS CT CZ CR hn
    have s0 : 0 ≤ st := by omega
    have s1 : st ≤ 86399999999 := by omega
    obtain ⟨ES, hes⟩ : ∃ x, smpsE st none ss = x := ⟨_, rfl⟩
    rw [hes] at hr
    have HES := Lib.hid hes; clear hes
    by_cases d1 : ES = 0
    · obtain ⟨SPN, hsp⟩ : ∃ x, spanL ss = x := ⟨_, rfl⟩
      obtain ⟨EL, hel⟩ : ∃ x, lapsE SPN 0 ls = x := ⟨_, rfl⟩
      rw [if_pos d1, hsp, hel] at hr
      have HSP := Lib.hid hsp; have HEL := Lib.hid hel; clear hsp hel
      subst d1
      by_cases d2 : EL = 0
      · have HV : Hid (tagsE none ts = E) := by show _ = _; rw [hr, if_pos d2]
        subst d2
        clear hr
        go_enter Try.func54, Try.ntmps54
        go_wp2_with fail
        refine (isName_is nm NS.out _ HN).mono ?_; rintro e w1 ⟨rfl, rfl⟩
        go_wp2_with fail
        refine (chkSamples_any st s0 s1 so sc ss SL.out _ (HS.out.grown (World.grownBy_alloc _ _ _)) HES).mono ?_; rintro e w1 ⟨rfl, hg1⟩
        have G1 := grown_trans (World.grownBy_alloc w (.cells #[.string nm, .int .i64 sp, .int .i64 st, .slice so ss.length sc, .slice lo ls.length lc, .slice to_ ts.length tc] 26) none) hg1
        have b0 : w1.cell? ⟨w.heap.size, 0, none⟩ = some (.string nm) := grown_cell hg1 (by simp)
        have b1 : w1.cell? ⟨w.heap.size, 1, none⟩ = some (.int .i64 sp) := grown_cell hg1 (by simp)
        have b2 : w1.cell? ⟨w.heap.size, 2, none⟩ = some (.int .i64 st) := grown_cell hg1 (by simp)
        have b3 : w1.cell? ⟨w.heap.size, 3, none⟩ = some (.slice so ss.length sc) := grown_cell hg1 (by simp)
        have b4 : w1.cell? ⟨w.heap.size, 4, none⟩ = some (.slice lo ls.length lc) := grown_cell hg1 (by simp)
        have b5 : w1.cell? ⟨w.heap.size, 5, none⟩ = some (.slice to_ ts.length tc) := grown_cell hg1 (by simp)
        clear hg1
        have hS0 : (World.grownBy w w1 none ∧ World.cell? w1 ⟨w.heap.size, 0, none⟩ = some (.string nm) ∧ World.cell? w1 ⟨w.heap.size, 1, none⟩ = some (.int .i64 sp) ∧ World.cell? w1 ⟨w.heap.size, 2, none⟩ = some (.int .i64 st) ∧ World.cell? w1 ⟨w.heap.size, 3, none⟩ = some (.slice so ss.length sc) ∧ World.cell? w1 ⟨w.heap.size, 4, none⟩ = some (.slice lo ls.length lc) ∧ World.cell? w1 ⟨w.heap.size, 5, none⟩ = some (.slice to_ ts.length tc)) := ⟨G1, b0, b1, b2, b3, b4, b5⟩
        have hstep : ∀ W W' : World, (World.grownBy w W none ∧ World.cell? W ⟨w.heap.size, 0, none⟩ = some (.string nm) ∧ World.cell? W ⟨w.heap.size, 1, none⟩ = some (.int .i64 sp) ∧ World.cell? W ⟨w.heap.size, 2, none⟩ = some (.int .i64 st) ∧ World.cell? W ⟨w.heap.size, 3, none⟩ = some (.slice so ss.length sc) ∧ World.cell? W ⟨w.heap.size, 4, none⟩ = some (.slice lo ls.length lc) ∧ World.cell? W ⟨w.heap.size, 5, none⟩ = some (.slice to_ ts.length tc)) → W.grownBy W' none → (World.grownBy w W' none ∧ World.cell? W' ⟨w.heap.size, 0, none⟩ = some (.string nm) ∧ World.cell? W' ⟨w.heap.size, 1, none⟩ = some (.int .i64 sp) ∧ World.cell? W' ⟨w.heap.size, 2, none⟩ = some (.int .i64 st) ∧ World.cell? W' ⟨w.heap.size, 3, none⟩ = some (.slice so ss.length sc) ∧ World.cell? W' ⟨w.heap.size, 4, none⟩ = some (.slice lo ls.length lc) ∧ World.cell? W' ⟨w.heap.size, 5, none⟩ = some (.slice to_ ts.length tc)) := fun W W' h g => ⟨grown_trans h.1 g, grown_cell g h.2.1, grown_cell g h.2.2.1, grown_cell g h.2.2.2.1, grown_cell g h.2.2.2.2.1, grown_cell g h.2.2.2.2.2.1, grown_cell g h.2.2.2.2.2.2⟩
        have hSd : (World.grownBy w w1.drew none ∧ World.cell? w1.drew ⟨w.heap.size, 0, none⟩ = some (.string nm) ∧ World.cell? w1.drew ⟨w.heap.size, 1, none⟩ = some (.int .i64 sp) ∧ World.cell? w1.drew ⟨w.heap.size, 2, none⟩ = some (.int .i64 st) ∧ World.cell? w1.drew ⟨w.heap.size, 3, none⟩ = some (.slice so ss.length sc) ∧ World.cell? w1.drew ⟨w.heap.size, 4, none⟩ = some (.slice lo ls.length lc) ∧ World.cell? w1.drew ⟨w.heap.size, 5, none⟩ = some (.slice to_ ts.length tc)) := hstep _ _ hS0 (grown_drewN _ _ 1)
        have hof : ∀ W : World, (World.grownBy w W none ∧ World.cell? W ⟨w.heap.size, 0, none⟩ = some (.string nm) ∧ World.cell? W ⟨w.heap.size, 1, none⟩ = some (.int .i64 sp) ∧ World.cell? W ⟨w.heap.size, 2, none⟩ = some (.int .i64 st) ∧ World.cell? W ⟨w.heap.size, 3, none⟩ = some (.slice so ss.length sc) ∧ World.cell? W ⟨w.heap.size, 4, none⟩ = some (.slice lo ls.length lc) ∧ World.cell? W ⟨w.heap.size, 5, none⟩ = some (.slice to_ ts.length tc)) → SmpsAt W so ss ∧ LapsAt W lo ls := fun W h => ⟨HS.out.grown h.1, HL.out.grown h.1⟩
        clear hS0
        go_wp2_with fail
        clear G1 b0 b1 b2 b3 b4 b5
        go_region_held3 (fun W => (World.grownBy w W none ∧ World.cell? W ⟨w.heap.size, 0, none⟩ = some (.string nm) ∧ World.cell? W ⟨w.heap.size, 1, none⟩ = some (.int .i64 sp) ∧ World.cell? W ⟨w.heap.size, 2, none⟩ = some (.int .i64 st) ∧ World.cell? W ⟨w.heap.size, 3, none⟩ = some (.slice so ss.length sc) ∧ World.cell? W ⟨w.heap.size, 4, none⟩ = some (.slice lo ls.length lc) ∧ World.cell? W ⟨w.heap.size, 5, none⟩ = some (.slice to_ ts.length tc))) (first | exact hSd | (refine hstep _ _ ?_ (by assumption) <;> assumption)) (first
          | (go_at_call 56; refine (span_any ⟨nm, sp, st, so, sc, ss, lo, lc, ls, to_, tc, ts⟩ SL.out _ (hof _ (by assumption)).1 HSP).mono ?_; rintro x w7 ⟨rfl, hg7⟩)
          | (go_at_call 116; refine (chkLaps_any _ lo lc ls LL.out _ (hof _ (by assumption)).2 HEL).mono ?_; rintro x w8 ⟨rfl, hg8⟩))
        all_goals
          rename_i hfin
          clear hSd
          obtain ⟨G9, f0, f1, f2, f3, f4, f5⟩ := hfin
          have HT9 := Lib.hid (HT.out.grown G9)
          clear hstep hof
          go_wp2_with fail
          refine (chkTags_any to_ tc ts TL.out _ HT9.out HV).mono ?_; rintro e w9 ⟨rfl, rfl⟩
          go_wp2_with fail
          go_ret
          exact ⟨rfl, G9⟩
      · have HV : Hid (E = EL) := by show _ = _; rw [hr, if_neg d2]
        have hne : (EL != 0) = true := by simpa using d2
        clear hr d2
        go_enter Try.func54, Try.ntmps54
        go_wp2_with fail
        refine (isName_is nm NS.out _ HN).mono ?_; rintro e w1 ⟨rfl, rfl⟩
        go_wp2_with fail
        refine (chkSamples_any st s0 s1 so sc ss SL.out _ (HS.out.grown (World.grownBy_alloc _ _ _)) HES).mono ?_; rintro e w1 ⟨rfl, hg1⟩
        have G1 := grown_trans (World.grownBy_alloc w (.cells #[.string nm, .int .i64 sp, .int .i64 st, .slice so ss.length sc, .slice lo ls.length lc, .slice to_ ts.length tc] 26) none) hg1
        have b0 : w1.cell? ⟨w.heap.size, 0, none⟩ = some (.string nm) := grown_cell hg1 (by simp)
        have b1 : w1.cell? ⟨w.heap.size, 1, none⟩ = some (.int .i64 sp) := grown_cell hg1 (by simp)
        have b2 : w1.cell? ⟨w.heap.size, 2, none⟩ = some (.int .i64 st) := grown_cell hg1 (by simp)
        have b3 : w1.cell? ⟨w.heap.size, 3, none⟩ = some (.slice so ss.length sc) := grown_cell hg1 (by simp)
        have b4 : w1.cell? ⟨w.heap.size, 4, none⟩ = some (.slice lo ls.length lc) := grown_cell hg1 (by simp)
        have b5 : w1.cell? ⟨w.heap.size, 5, none⟩ = some (.slice to_ ts.length tc) := grown_cell hg1 (by simp)
        clear hg1
        have hS0 : (World.grownBy w w1 none ∧ World.cell? w1 ⟨w.heap.size, 0, none⟩ = some (.string nm) ∧ World.cell? w1 ⟨w.heap.size, 1, none⟩ = some (.int .i64 sp) ∧ World.cell? w1 ⟨w.heap.size, 2, none⟩ = some (.int .i64 st) ∧ World.cell? w1 ⟨w.heap.size, 3, none⟩ = some (.slice so ss.length sc) ∧ World.cell? w1 ⟨w.heap.size, 4, none⟩ = some (.slice lo ls.length lc) ∧ World.cell? w1 ⟨w.heap.size, 5, none⟩ = some (.slice to_ ts.length tc)) := ⟨G1, b0, b1, b2, b3, b4, b5⟩
        have hstep : ∀ W W' : World, (World.grownBy w W none ∧ World.cell? W ⟨w.heap.size, 0, none⟩ = some (.string nm) ∧ World.cell? W ⟨w.heap.size, 1, none⟩ = some (.int .i64 sp) ∧ World.cell? W ⟨w.heap.size, 2, none⟩ = some (.int .i64 st) ∧ World.cell? W ⟨w.heap.size, 3, none⟩ = some (.slice so ss.length sc) ∧ World.cell? W ⟨w.heap.size, 4, none⟩ = some (.slice lo ls.length lc) ∧ World.cell? W ⟨w.heap.size, 5, none⟩ = some (.slice to_ ts.length tc)) → W.grownBy W' none → (World.grownBy w W' none ∧ World.cell? W' ⟨w.heap.size, 0, none⟩ = some (.string nm) ∧ World.cell? W' ⟨w.heap.size, 1, none⟩ = some (.int .i64 sp) ∧ World.cell? W' ⟨w.heap.size, 2, none⟩ = some (.int .i64 st) ∧ World.cell? W' ⟨w.heap.size, 3, none⟩ = some (.slice so ss.length sc) ∧ World.cell? W' ⟨w.heap.size, 4, none⟩ = some (.slice lo ls.length lc) ∧ World.cell? W' ⟨w.heap.size, 5, none⟩ = some (.slice to_ ts.length tc)) := fun W W' h g => ⟨grown_trans h.1 g, grown_cell g h.2.1, grown_cell g h.2.2.1, grown_cell g h.2.2.2.1, grown_cell g h.2.2.2.2.1, grown_cell g h.2.2.2.2.2.1, grown_cell g h.2.2.2.2.2.2⟩
        have hSd : (World.grownBy w w1.drew none ∧ World.cell? w1.drew ⟨w.heap.size, 0, none⟩ = some (.string nm) ∧ World.cell? w1.drew ⟨w.heap.size, 1, none⟩ = some (.int .i64 sp) ∧ World.cell? w1.drew ⟨w.heap.size, 2, none⟩ = some (.int .i64 st) ∧ World.cell? w1.drew ⟨w.heap.size, 3, none⟩ = some (.slice so ss.length sc) ∧ World.cell? w1.drew ⟨w.heap.size, 4, none⟩ = some (.slice lo ls.length lc) ∧ World.cell? w1.drew ⟨w.heap.size, 5, none⟩ = some (.slice to_ ts.length tc)) := hstep _ _ hS0 (grown_drewN _ _ 1)
        have hof : ∀ W : World, (World.grownBy w W none ∧ World.cell? W ⟨w.heap.size, 0, none⟩ = some (.string nm) ∧ World.cell? W ⟨w.heap.size, 1, none⟩ = some (.int .i64 sp) ∧ World.cell? W ⟨w.heap.size, 2, none⟩ = some (.int .i64 st) ∧ World.cell? W ⟨w.heap.size, 3, none⟩ = some (.slice so ss.length sc) ∧ World.cell? W ⟨w.heap.size, 4, none⟩ = some (.slice lo ls.length lc) ∧ World.cell? W ⟨w.heap.size, 5, none⟩ = some (.slice to_ ts.length tc)) → SmpsAt W so ss ∧ LapsAt W lo ls := fun W h => ⟨HS.out.grown h.1, HL.out.grown h.1⟩
        clear hS0
        go_wp2_with fail
        clear G1 b0 b1 b2 b3 b4 b5
        go_region_held3 (fun W => (World.grownBy w W none ∧ World.cell? W ⟨w.heap.size, 0, none⟩ = some (.string nm) ∧ World.cell? W ⟨w.heap.size, 1, none⟩ = some (.int .i64 sp) ∧ World.cell? W ⟨w.heap.size, 2, none⟩ = some (.int .i64 st) ∧ World.cell? W ⟨w.heap.size, 3, none⟩ = some (.slice so ss.length sc) ∧ World.cell? W ⟨w.heap.size, 4, none⟩ = some (.slice lo ls.length lc) ∧ World.cell? W ⟨w.heap.size, 5, none⟩ = some (.slice to_ ts.length tc))) (first | exact hSd | (refine hstep _ _ ?_ (by assumption) <;> assumption)) (first
          | (go_at_call 56; refine (span_any ⟨nm, sp, st, so, sc, ss, lo, lc, ls, to_, tc, ts⟩ SL.out _ (hof _ (by assumption)).1 HSP).mono ?_; rintro x w7 ⟨rfl, hg7⟩)
          | (go_at_call 116; refine (chkLaps_any _ lo lc ls LL.out _ (hof _ (by assumption)).2 HEL).mono ?_; rintro x w8 ⟨rfl, hg8⟩))
        all_goals
          rename_i hfin
          clear hSd
          obtain ⟨G9, f0, f1, f2, f3, f4, f5⟩ := hfin
          clear hstep hof
          go_wp2_with fail
          go_ret
          exact ⟨ret_int HV.out.symm, G9⟩
    · have HV : Hid (E = ES) := by show _ = _; rw [hr, if_neg d1]
      have hne : (ES != 0) = true := by simpa using d1
      clear hr d1
      go_enter Try.func54, Try.ntmps54
      go_wp2_with fail
      refine (isName_is nm NS.out _ HN).mono ?_; rintro e w1 ⟨rfl, rfl⟩
      go_wp2_with fail
      refine (chkSamples_any st s0 s1 so sc ss SL.out _ (HS.out.grown (World.grownBy_alloc _ _ _)) HES).mono ?_; rintro e w1 ⟨rfl, hg1⟩
      have G1 := grown_trans (World.grownBy_alloc w (.cells #[.string nm, .int .i64 sp, .int .i64 st, .slice so ss.length sc, .slice lo ls.length lc, .slice to_ ts.length tc] 26) none) hg1
      have b0 : w1.cell? ⟨w.heap.size, 0, none⟩ = some (.string nm) := grown_cell hg1 (by simp)
      have b1 : w1.cell? ⟨w.heap.size, 1, none⟩ = some (.int .i64 sp) := grown_cell hg1 (by simp)
      have b2 : w1.cell? ⟨w.heap.size, 2, none⟩ = some (.int .i64 st) := grown_cell hg1 (by simp)
      have b3 : w1.cell? ⟨w.heap.size, 3, none⟩ = some (.slice so ss.length sc) := grown_cell hg1 (by simp)
      have b4 : w1.cell? ⟨w.heap.size, 4, none⟩ = some (.slice lo ls.length lc) := grown_cell hg1 (by simp)
      have b5 : w1.cell? ⟨w.heap.size, 5, none⟩ = some (.slice to_ ts.length tc) := grown_cell hg1 (by simp)
      clear hg1
      go_wp2_with fail
      go_ret
      exact ⟨ret_int HV.out.symm, G1⟩

end Go.Proofs.Ytgkhhfojioepgaa
namespace Go.Proofs.Ytgkhhfojioepgaa
open Go.RowKit
set_option linter.unusedSimpArgs false
set_option linter.unusedVariables false

set_option maxHeartbeats 1600000 in
theorem rname_is (s : ByteArray) (hs : s.size ≤ 140737488355328) (w : World) {b : Bool} (hb : Hid (nameB s = b)) :
    Calls Try.prog 120 #[.string s] w fun e w' => e = .returned (.bool b) ∧ w = w' := by
  have hs2 : (s.size : Int) ≤ 140737488355328 := by omega
  go_enter Try.func120, Try.ntmps120
  go_wp2
  go_loop [3] (fun iv => ∃ k : Nat, k ≤ s.size ∧ iv = .int .i64 k ∧ Hid (∀ j (h : j < s.size), j < k → okC s[j].toNat = true)) (fun iv => s.size - (intOf iv).toNat)
  case atStart => exact ⟨0, Nat.zero_le _, rfl, fun j _ h => absurd h (by omega)⟩
  case round =>
    obtain ⟨k, hk, rfl, hinv⟩ := hrel
    by_cases hlt : k < s.size
    · rcases byte_cases s[k].toNat s[k].toNat_lt with ⟨hok, hc⟩ | ⟨hok, hc⟩
      · have HI : Hid (∀ j (h : j < s.size), j < k + 1 → okC s[j].toNat = true) := fun j hj hlt => by
          by_cases e : j = k
          · subst e; exact hok
          · exact hinv.out j hj (by omega)
        clear hok
        rcases hc with hc | hc | hc | hc | hc | hc
        · obtain ⟨c1, c2⟩ := hc
          have d97 : decide (97 ≤ (s[k].toNat : Int)) = true := by simp; omega
          have d65 : decide (65 ≤ (s[k].toNat : Int)) = true := by simp; omega
          have d48 : decide (48 ≤ (s[k].toNat : Int)) = true := by simp; omega
          have d122 : decide ((s[k].toNat : Int) ≤ 122) = true := by simp; omega
          have d90 : decide ((s[k].toNat : Int) ≤ 90) = false := by simp; omega
          have d57 : decide ((s[k].toNat : Int) ≤ 57) = false := by simp; omega
          have m45 : ((s[k].toNat : Int) == 45) = false := by simp; omega
          have m95 : ((s[k].toNat : Int) == 95) = false := by simp; omega
          have m46 : ((s[k].toNat : Int) == 46) = false := by simp; omega
          clear c1 c2
          go_wp2
          go_round
          case rel => exact ⟨k + 1, by omega, by go_num, HI⟩
          case measure => simp [intOf]; omega
        · obtain ⟨c1, c2⟩ := hc
          have d97 : decide (97 ≤ (s[k].toNat : Int)) = false := by simp; omega
          have d65 : decide (65 ≤ (s[k].toNat : Int)) = true := by simp; omega
          have d48 : decide (48 ≤ (s[k].toNat : Int)) = true := by simp; omega
          have d122 : decide ((s[k].toNat : Int) ≤ 122) = true := by simp; omega
          have d90 : decide ((s[k].toNat : Int) ≤ 90) = true := by simp; omega
          have d57 : decide ((s[k].toNat : Int) ≤ 57) = false := by simp; omega
          have m45 : ((s[k].toNat : Int) == 45) = false := by simp; omega
          have m95 : ((s[k].toNat : Int) == 95) = false := by simp; omega
          have m46 : ((s[k].toNat : Int) == 46) = false := by simp; omega
          clear c1 c2
          go_wp2
          go_round
          case rel => exact ⟨k + 1, by omega, by go_num, HI⟩
          case measure => simp [intOf]; omega
        · obtain ⟨c1, c2⟩ := hc
          have d97 : decide (97 ≤ (s[k].toNat : Int)) = false := by simp; omega
          have d65 : decide (65 ≤ (s[k].toNat : Int)) = false := by simp; omega
          have d48 : decide (48 ≤ (s[k].toNat : Int)) = true := by simp; omega
          have d122 : decide ((s[k].toNat : Int) ≤ 122) = true := by simp; omega
          have d90 : decide ((s[k].toNat : Int) ≤ 90) = true := by simp; omega
          have d57 : decide ((s[k].toNat : Int) ≤ 57) = true := by simp; omega
          have m45 : ((s[k].toNat : Int) == 45) = false := by simp; omega
          have m95 : ((s[k].toNat : Int) == 95) = false := by simp; omega
          have m46 : ((s[k].toNat : Int) == 46) = false := by simp; omega
          clear c1 c2
          go_wp2
          go_round
          case rel => exact ⟨k + 1, by omega, by go_num, HI⟩
          case measure => simp [intOf]; omega
        · obtain ⟨c1, c2⟩ := hc
          have d97 : decide (97 ≤ (s[k].toNat : Int)) = false := by simp; omega
          have d65 : decide (65 ≤ (s[k].toNat : Int)) = false := by simp; omega
          have d48 : decide (48 ≤ (s[k].toNat : Int)) = false := by simp; omega
          have d122 : decide ((s[k].toNat : Int) ≤ 122) = true := by simp; omega
          have d90 : decide ((s[k].toNat : Int) ≤ 90) = true := by simp; omega
          have d57 : decide ((s[k].toNat : Int) ≤ 57) = true := by simp; omega
          have m45 : ((s[k].toNat : Int) == 45) = true := by simp; omega
          have m95 : ((s[k].toNat : Int) == 95) = false := by simp; omega
          have m46 : ((s[k].toNat : Int) == 46) = false := by simp; omega
          clear c1 c2
          go_wp2
          go_round
          case rel => exact ⟨k + 1, by omega, by go_num, HI⟩
          case measure => simp [intOf]; omega
        · obtain ⟨c1, c2⟩ := hc
          have d97 : decide (97 ≤ (s[k].toNat : Int)) = false := by simp; omega
          have d65 : decide (65 ≤ (s[k].toNat : Int)) = true := by simp; omega
          have d48 : decide (48 ≤ (s[k].toNat : Int)) = true := by simp; omega
          have d122 : decide ((s[k].toNat : Int) ≤ 122) = true := by simp; omega
          have d90 : decide ((s[k].toNat : Int) ≤ 90) = false := by simp; omega
          have d57 : decide ((s[k].toNat : Int) ≤ 57) = false := by simp; omega
          have m45 : ((s[k].toNat : Int) == 45) = false := by simp; omega
          have m95 : ((s[k].toNat : Int) == 95) = true := by simp; omega
          have m46 : ((s[k].toNat : Int) == 46) = false := by simp; omega
          clear c1 c2
          go_wp2
          go_round
          case rel => exact ⟨k + 1, by omega, by go_num, HI⟩
          case measure => simp [intOf]; omega
        · obtain ⟨c1, c2⟩ := hc
          have d97 : decide (97 ≤ (s[k].toNat : Int)) = false := by simp; omega
          have d65 : decide (65 ≤ (s[k].toNat : Int)) = false := by simp; omega
          have d48 : decide (48 ≤ (s[k].toNat : Int)) = false := by simp; omega
          have d122 : decide ((s[k].toNat : Int) ≤ 122) = true := by simp; omega
          have d90 : decide ((s[k].toNat : Int) ≤ 90) = true := by simp; omega
          have d57 : decide ((s[k].toNat : Int) ≤ 57) = true := by simp; omega
          have m45 : ((s[k].toNat : Int) == 45) = false := by simp; omega
          have m95 : ((s[k].toNat : Int) == 95) = false := by simp; omega
          have m46 : ((s[k].toNat : Int) == 46) = true := by simp; omega
          clear c1 c2
          go_wp2
          go_round
          case rel => exact ⟨k + 1, by omega, by go_num, HI⟩
          case measure => simp [intOf]; omega
      · have HV : Hid (b = false) := by show _ = _; rw [← hb.out]; exact name_bad hlt hok
        clear hok
        rcases hc with hc | hc | hc | hc | hc | hc
        · obtain ⟨c1, c2⟩ := hc
          have d97 : decide (97 ≤ (s[k].toNat : Int)) = false := by simp; omega
          have d65 : decide (65 ≤ (s[k].toNat : Int)) = false := by simp; omega
          have d48 : decide (48 ≤ (s[k].toNat : Int)) = false := by simp; omega
          have d122 : decide ((s[k].toNat : Int) ≤ 122) = true := by simp; omega
          have d90 : decide ((s[k].toNat : Int) ≤ 90) = true := by simp; omega
          have d57 : decide ((s[k].toNat : Int) ≤ 57) = true := by simp; omega
          have m45 : ((s[k].toNat : Int) == 45) = false := by simp; omega
          have m95 : ((s[k].toNat : Int) == 95) = false := by simp; omega
          have m46 : ((s[k].toNat : Int) == 46) = false := by simp; omega
          clear c1 c2
          go_wp2
          go_ret
          exact ⟨ret_bool HV.out.symm, rfl⟩
        · obtain ⟨c1, c2⟩ := hc
          have d97 : decide (97 ≤ (s[k].toNat : Int)) = false := by simp; omega
          have d65 : decide (65 ≤ (s[k].toNat : Int)) = false := by simp; omega
          have d48 : decide (48 ≤ (s[k].toNat : Int)) = false := by simp; omega
          have d122 : decide ((s[k].toNat : Int) ≤ 122) = true := by simp; omega
          have d90 : decide ((s[k].toNat : Int) ≤ 90) = true := by simp; omega
          have d57 : decide ((s[k].toNat : Int) ≤ 57) = true := by simp; omega
          have m45 : ((s[k].toNat : Int) == 45) = false := by simp; omega
          have m95 : ((s[k].toNat : Int) == 95) = false := by simp; omega
          have m46 : ((s[k].toNat : Int) == 46) = false := by simp; omega
          clear c1 c2
          go_wp2
          go_ret
          exact ⟨ret_bool HV.out.symm, rfl⟩
        · obtain ⟨c1, c2⟩ := hc
          have d97 : decide (97 ≤ (s[k].toNat : Int)) = false := by simp; omega
          have d65 : decide (65 ≤ (s[k].toNat : Int)) = false := by simp; omega
          have d48 : decide (48 ≤ (s[k].toNat : Int)) = true := by simp; omega
          have d122 : decide ((s[k].toNat : Int) ≤ 122) = true := by simp; omega
          have d90 : decide ((s[k].toNat : Int) ≤ 90) = true := by simp; omega
          have d57 : decide ((s[k].toNat : Int) ≤ 57) = false := by simp; omega
          have m45 : ((s[k].toNat : Int) == 45) = false := by simp; omega
          have m95 : ((s[k].toNat : Int) == 95) = false := by simp; omega
          have m46 : ((s[k].toNat : Int) == 46) = false := by simp; omega
          clear c1 c2
          go_wp2
          go_ret
          exact ⟨ret_bool HV.out.symm, rfl⟩
        · obtain ⟨c1, c2⟩ := hc
          have d97 : decide (97 ≤ (s[k].toNat : Int)) = false := by simp; omega
          have d65 : decide (65 ≤ (s[k].toNat : Int)) = true := by simp; omega
          have d48 : decide (48 ≤ (s[k].toNat : Int)) = true := by simp; omega
          have d122 : decide ((s[k].toNat : Int) ≤ 122) = true := by simp; omega
          have d90 : decide ((s[k].toNat : Int) ≤ 90) = false := by simp; omega
          have d57 : decide ((s[k].toNat : Int) ≤ 57) = false := by simp; omega
          have m45 : ((s[k].toNat : Int) == 45) = false := by simp; omega
          have m95 : ((s[k].toNat : Int) == 95) = false := by simp; omega
          have m46 : ((s[k].toNat : Int) == 46) = false := by simp; omega
          clear c1 c2
          go_wp2
          go_ret
          exact ⟨ret_bool HV.out.symm, rfl⟩
        · obtain ⟨c1, c2⟩ := hc
          have d97 : decide (97 ≤ (s[k].toNat : Int)) = false := by simp; omega
          have d65 : decide (65 ≤ (s[k].toNat : Int)) = true := by simp; omega
          have d48 : decide (48 ≤ (s[k].toNat : Int)) = true := by simp; omega
          have d122 : decide ((s[k].toNat : Int) ≤ 122) = true := by simp; omega
          have d90 : decide ((s[k].toNat : Int) ≤ 90) = false := by simp; omega
          have d57 : decide ((s[k].toNat : Int) ≤ 57) = false := by simp; omega
          have m45 : ((s[k].toNat : Int) == 45) = false := by simp; omega
          have m95 : ((s[k].toNat : Int) == 95) = false := by simp; omega
          have m46 : ((s[k].toNat : Int) == 46) = false := by simp; omega
          clear c1 c2
          go_wp2
          go_ret
          exact ⟨ret_bool HV.out.symm, rfl⟩
        · obtain ⟨c1, c2⟩ := hc
          have d97 : decide (97 ≤ (s[k].toNat : Int)) = true := by simp; omega
          have d65 : decide (65 ≤ (s[k].toNat : Int)) = true := by simp; omega
          have d48 : decide (48 ≤ (s[k].toNat : Int)) = true := by simp; omega
          have d122 : decide ((s[k].toNat : Int) ≤ 122) = false := by simp; omega
          have d90 : decide ((s[k].toNat : Int) ≤ 90) = false := by simp; omega
          have d57 : decide ((s[k].toNat : Int) ≤ 57) = false := by simp; omega
          have m45 : ((s[k].toNat : Int) == 45) = false := by simp; omega
          have m95 : ((s[k].toNat : Int) == 95) = false := by simp; omega
          have m46 : ((s[k].toNat : Int) == 46) = false := by simp; omega
          clear c1 c2
          go_wp2
          go_ret
          exact ⟨ret_bool HV.out.symm, rfl⟩
    · by_cases h1 : 1 ≤ (s.size : Int)
      · by_cases h2 : (s.size : Int) ≤ 60
        · have HV : Hid (b = true) := by show _ = _; rw [← hb.out]; exact name_good (by omega) (by omega) (fun j hj => hinv.out j hj (by omega))
          go_wp2
          go_ret
          exact ⟨ret_bool HV.out.symm, rfl⟩
        · have HV : Hid (b = false) := by show _ = _; rw [← hb.out]; exact name_short (.inr (by omega))
          go_wp2
          go_ret
          exact ⟨ret_bool HV.out.symm, rfl⟩
      · have HV : Hid (b = false) := by show _ = _; rw [← hb.out]; exact name_short (.inl (by omega))
        go_wp2
        go_ret
        exact ⟨ret_bool HV.out.symm, rfl⟩

end Go.Proofs.Ytgkhhfojioepgaa
namespace Go.Proofs.Ytgkhhfojioepgaa
open Go.RowKit
set_option linter.unusedSimpArgs false
set_option linter.unusedVariables false

theorem out_no (n lo hi : Int) (h0 : lo ≤ n) (h1 : n ≤ hi) (w : World) : Calls Try.prog 121 #[.int .i64 n, .int .i64 lo, .int .i64 hi] w fun e w' => e = .returned (.bool false) ∧ w = w' := by
  have h2 : decide (n < lo) = false := by simp; omega
  have h3 : decide (hi < n) = false := by simp; omega
  go_enter Try.func121, Try.ntmps121
  go_wp2
  go_ret
  exact ⟨ret_bool (by first | rfl | (simp; omega)), rfl⟩
theorem out_yes (n lo hi : Int) (h : n < lo ∨ hi < n) (w : World) : Calls Try.prog 121 #[.int .i64 n, .int .i64 lo, .int .i64 hi] w fun e w' => e = .returned (.bool true) ∧ w = w' := by
  by_cases h0 : n < lo
  · clear h
    go_enter Try.func121, Try.ntmps121
    go_wp2
    go_ret
    exact ⟨ret_bool (by first | rfl | (simp; omega)), rfl⟩
  · have h1 : hi < n := by omega
    have h2 : decide (n < lo) = false := by simp; omega
    clear h
    go_enter Try.func121, Try.ntmps121
    go_wp2
    go_ret
    exact ⟨ret_bool (by first | rfl | (simp; omega)), rfl⟩

def sampF (st : Int) (b : Option Int) (x : Smp) : Int := if early b x.t then 10 else if smpIn st x then 0 else 9

set_option maxRecDepth 100000 in
set_option maxHeartbeats 6400000 in
theorem rsample_some (nm : ByteArray) (sp st : Int) (b off sc : Nat) (ss : List Smp) (lo : Option Addr) (lc : Nat) (ls : List LapV) (to_ : Option Addr) (tc : Nat) (ts : List ByteArray) (s0 : 0 ≤ st) (s1 : st ≤ 86399999999) (hl : (ss.length : Int) ≤ 9223372036854775807) (k : Nat) (hlt : k < ss.length) (w : World) (hs : SmpsAt w (some ⟨b, off, none⟩) ss) (hp : Hid (∀ p, prevT ss k = some p → 0 ≤ p)) {E : Int} (hE : Hid (sampF st (prevT ss k) ss[k] = E)) :
    Calls Try.prog 122 #[.agg #[.string nm, .int .i64 sp, .int .i64 st, .slice (some ⟨b, off, none⟩) ss.length sc, .slice lo ls.length lc, .slice to_ ts.length tc], .int .i64 k] w fun e w' => e = .returned (.int .i64 E) ∧ w.grownBy w' none := by
  obtain ⟨c0, c1, c2, c3, c4, c5, c6⟩ := hs.cells _ rfl k hlt
  simp only at c0 c1 c2 c3 c4 c5 c6
  have RE : early (prevT ss k) ss[k].t → Hid (E = 10) := fun h => by show _ = _; rw [← hE.out, sampF, if_pos h]
  have RO : ¬ early (prevT ss k) ss[k].t → ¬ smpIn st ss[k] → Hid (E = 9) := fun h h' => by show _ = _; rw [← hE.out, sampF, if_neg h, if_neg h']
  have RN : ¬ early (prevT ss k) ss[k].t → smpIn st ss[k] → Hid (E = 0) := fun h h' => by show _ = _; rw [← hE.out, sampF, if_neg h, if_pos h']
  clear hE
  have HS := Lib.hid hs; have HLT := Lib.hid hlt; clear hs
  generalize ss[k] = x at *
  obtain ⟨t, px, py, pz, pp, pq, ps⟩ := x
  simp only at c0 c1 c2 c3 c4 c5 c6 RE RO RN
  have B0 := World.grownBy_alloc w (.cells #[.string nm, .int .i64 sp, .int .i64 st, .slice (some ⟨b, off, none⟩) ss.length sc, .slice lo ls.length lc, .slice to_ ts.length tc] 26) none
  have d0 := grown_cell B0 c0; have d1 := grown_cell B0 c1; have d2 := grown_cell B0 c2; have d3 := grown_cell B0 c3; have d4 := grown_cell B0 c4; have d5 := grown_cell B0 c5; have d6 := grown_cell B0 c6
  clear B0
  by_cases hk0 : k = 0
  · have e0 : ((k : Int) == 0) = true := by simp; omega
    have e2 : decide (0 < (k : Int)) = false := by simp; omega
    have e3 : decide (0 < k) = false := by simp; omega
    have hpk : Hid (prevT ss k = none) := by subst hk0; exact rfl
    have HK := Lib.hid hk0
    clear hk0
    by_cases ht : t = 0
    · have e1 : (t != 0) = false := by simpa using ht
      have tl0 : 0 ≤ t := by omega
      have tl1 : t ≤ 0 := by omega
      have NE : Hid (¬ early (prevT ss k) t) := by show ¬ _; rw [hpk.out]; unfold early; simpa using ht
      clear ht
      have ta : ¬ 1000000 < t := by omega
      have tb : ¬ 86399999999 < st + t := by omega
      by_cases t0 : -100000000 ≤ px ∧ px ≤ 100000000
      rotate_left
      · have HE := RO NE.out (by unfold smpIn; simp only; omega)
        have Q0 : Hid (px < -100000000 ∨ 100000000 < px) := by show _ ∨ _; omega
        clear RE RO RN t0
        go_enter Try.func122, Try.ntmps122
        go_wp2_with fail
        go_quiet (fail)
        clear e0 e2
        go_wp2_with fail
        refine (out_yes _ _ _ Q0.out _).mono ?_; rintro e w1 ⟨rfl, rfl⟩
        go_wp2_with fail
        go_ret
        exact ⟨ret_int HE.out.symm, grown_trans (grown_trans (World.grownBy_alloc _ _ _) (World.grownBy_alloc _ _ _)) (grown_drewN _ _ _)⟩
      have Q0 : Hid (-100000000 ≤ px ∧ px ≤ 100000000) := t0
      by_cases t1 : -100000000 ≤ py ∧ py ≤ 100000000
      rotate_left
      · have HE := RO NE.out (by unfold smpIn; simp only; omega)
        have Q1 : Hid (py < -100000000 ∨ 100000000 < py) := by show _ ∨ _; omega
        clear RE RO RN t1
        go_enter Try.func122, Try.ntmps122
        go_wp2_with fail
        go_quiet (fail)
        clear e0 e2
        go_wp2_with fail
        refine (out_no _ _ _ Q0.out.1 Q0.out.2 _).mono ?_; rintro e w1 ⟨rfl, rfl⟩
        go_wp2_with fail
        refine (out_yes _ _ _ Q1.out _).mono ?_; rintro e w1 ⟨rfl, rfl⟩
        go_wp2_with fail
        go_ret
        exact ⟨ret_int HE.out.symm, grown_trans (grown_trans (World.grownBy_alloc _ _ _) (World.grownBy_alloc _ _ _)) (grown_drewN _ _ _)⟩
      have Q1 : Hid (-100000000 ≤ py ∧ py ≤ 100000000) := t1
      by_cases t2 : -100000 ≤ pz ∧ pz ≤ 100000
      rotate_left
      · have HE := RO NE.out (by unfold smpIn; simp only; omega)
        have Q2 : Hid (pz < -100000 ∨ 100000 < pz) := by show _ ∨ _; omega
        clear RE RO RN t2
        go_enter Try.func122, Try.ntmps122
        go_wp2_with fail
        go_quiet (fail)
        clear e0 e2
        go_wp2_with fail
        refine (out_no _ _ _ Q0.out.1 Q0.out.2 _).mono ?_; rintro e w1 ⟨rfl, rfl⟩
        go_wp2_with fail
        refine (out_no _ _ _ Q1.out.1 Q1.out.2 _).mono ?_; rintro e w1 ⟨rfl, rfl⟩
        go_wp2_with fail
        refine (out_yes _ _ _ Q2.out _).mono ?_; rintro e w1 ⟨rfl, rfl⟩
        go_wp2_with fail
        go_ret
        exact ⟨ret_int HE.out.symm, grown_trans (grown_trans (World.grownBy_alloc _ _ _) (World.grownBy_alloc _ _ _)) (grown_drewN _ _ _)⟩
      have Q2 : Hid (-100000 ≤ pz ∧ pz ≤ 100000) := t2
      by_cases t3 : -1 ≤ pp ∧ pp ≤ 300
      rotate_left
      · have HE := RO NE.out (by unfold smpIn; simp only; omega)
        have Q3 : Hid (pp < -1 ∨ 300 < pp) := by show _ ∨ _; omega
        clear RE RO RN t3
        go_enter Try.func122, Try.ntmps122
        go_wp2_with fail
        go_quiet (fail)
        clear e0 e2
        go_wp2_with fail
        refine (out_no _ _ _ Q0.out.1 Q0.out.2 _).mono ?_; rintro e w1 ⟨rfl, rfl⟩
        go_wp2_with fail
        refine (out_no _ _ _ Q1.out.1 Q1.out.2 _).mono ?_; rintro e w1 ⟨rfl, rfl⟩
        go_wp2_with fail
        refine (out_no _ _ _ Q2.out.1 Q2.out.2 _).mono ?_; rintro e w1 ⟨rfl, rfl⟩
        go_wp2_with fail
        refine (out_yes _ _ _ Q3.out _).mono ?_; rintro e w1 ⟨rfl, rfl⟩
        go_wp2_with fail
        go_ret
        exact ⟨ret_int HE.out.symm, grown_trans (grown_trans (World.grownBy_alloc _ _ _) (World.grownBy_alloc _ _ _)) (grown_drewN _ _ _)⟩
      have Q3 : Hid (-1 ≤ pp ∧ pp ≤ 300) := t3
      by_cases t4 : -1 ≤ pq ∧ pq ≤ 3000
      rotate_left
      · have HE := RO NE.out (by unfold smpIn; simp only; omega)
        have Q4 : Hid (pq < -1 ∨ 3000 < pq) := by show _ ∨ _; omega
        clear RE RO RN t4
        go_enter Try.func122, Try.ntmps122
        go_wp2_with fail
        go_quiet (fail)
        clear e0 e2
        go_wp2_with fail
        refine (out_no _ _ _ Q0.out.1 Q0.out.2 _).mono ?_; rintro e w1 ⟨rfl, rfl⟩
        go_wp2_with fail
        refine (out_no _ _ _ Q1.out.1 Q1.out.2 _).mono ?_; rintro e w1 ⟨rfl, rfl⟩
        go_wp2_with fail
        refine (out_no _ _ _ Q2.out.1 Q2.out.2 _).mono ?_; rintro e w1 ⟨rfl, rfl⟩
        go_wp2_with fail
        refine (out_no _ _ _ Q3.out.1 Q3.out.2 _).mono ?_; rintro e w1 ⟨rfl, rfl⟩
        go_wp2_with fail
        refine (out_yes _ _ _ Q4.out _).mono ?_; rintro e w1 ⟨rfl, rfl⟩
        go_wp2_with fail
        go_ret
        exact ⟨ret_int HE.out.symm, grown_trans (grown_trans (World.grownBy_alloc _ _ _) (World.grownBy_alloc _ _ _)) (grown_drewN _ _ _)⟩
      have Q4 : Hid (-1 ≤ pq ∧ pq ≤ 3000) := t4
      by_cases t5 : -1 ≤ ps ∧ ps ≤ 300
      rotate_left
      · have HE := RO NE.out (by unfold smpIn; simp only; omega)
        have Q5 : Hid (ps < -1 ∨ 300 < ps) := by show _ ∨ _; omega
        clear RE RO RN t5
        go_enter Try.func122, Try.ntmps122
        go_wp2_with fail
        go_quiet (fail)
        clear e0 e2
        go_wp2_with fail
        refine (out_no _ _ _ Q0.out.1 Q0.out.2 _).mono ?_; rintro e w1 ⟨rfl, rfl⟩
        go_wp2_with fail
        refine (out_no _ _ _ Q1.out.1 Q1.out.2 _).mono ?_; rintro e w1 ⟨rfl, rfl⟩
        go_wp2_with fail
        refine (out_no _ _ _ Q2.out.1 Q2.out.2 _).mono ?_; rintro e w1 ⟨rfl, rfl⟩
        go_wp2_with fail
        refine (out_no _ _ _ Q3.out.1 Q3.out.2 _).mono ?_; rintro e w1 ⟨rfl, rfl⟩
        go_wp2_with fail
        refine (out_no _ _ _ Q4.out.1 Q4.out.2 _).mono ?_; rintro e w1 ⟨rfl, rfl⟩
        go_wp2_with fail
        refine (out_yes _ _ _ Q5.out _).mono ?_; rintro e w1 ⟨rfl, rfl⟩
        go_wp2_with fail
        go_ret
        exact ⟨ret_int HE.out.symm, grown_trans (grown_trans (World.grownBy_alloc _ _ _) (World.grownBy_alloc _ _ _)) (grown_drewN _ _ _)⟩
      have Q5 : Hid (-1 ≤ ps ∧ ps ≤ 300) := t5
      have HE := RN NE.out (by unfold smpIn; simp only; omega)
      clear RE RO RN t0 t1 t2 t3 t4 t5
      go_enter Try.func122, Try.ntmps122
      go_wp2_with fail
      go_quiet (fail)
      clear e0 e2
      go_wp2_with fail
      refine (out_no _ _ _ Q0.out.1 Q0.out.2 _).mono ?_; rintro e w1 ⟨rfl, rfl⟩
      go_wp2_with fail
      refine (out_no _ _ _ Q1.out.1 Q1.out.2 _).mono ?_; rintro e w1 ⟨rfl, rfl⟩
      go_wp2_with fail
      refine (out_no _ _ _ Q2.out.1 Q2.out.2 _).mono ?_; rintro e w1 ⟨rfl, rfl⟩
      go_wp2_with fail
      refine (out_no _ _ _ Q3.out.1 Q3.out.2 _).mono ?_; rintro e w1 ⟨rfl, rfl⟩
      go_wp2_with fail
      refine (out_no _ _ _ Q4.out.1 Q4.out.2 _).mono ?_; rintro e w1 ⟨rfl, rfl⟩
      go_wp2_with fail
      refine (out_no _ _ _ Q5.out.1 Q5.out.2 _).mono ?_; rintro e w1 ⟨rfl, rfl⟩
      go_wp2_with fail
      go_ret
      exact ⟨ret_int HE.out.symm, grown_trans (grown_trans (World.grownBy_alloc _ _ _) (World.grownBy_alloc _ _ _)) (grown_drewN _ _ _)⟩
    · have e1 : (t != 0) = true := by simpa using ht
      have HE := RE (by rw [hpk.out]; exact ht)
      clear RE RO RN ht
      go_enter Try.func122, Try.ntmps122
      go_wp2_with fail
      go_quiet (fail)
      clear e0 e2
      go_wp2_with fail
      go_ret
      exact ⟨ret_int HE.out.symm, grown_trans (grown_trans (World.grownBy_alloc _ _ _) (World.grownBy_alloc _ _ _)) (grown_drewN _ _ _)⟩
  · obtain ⟨i, hki⟩ : ∃ i, k = i + 1 := ⟨k - 1, by omega⟩
    have hi : i < ss.length := by omega
    obtain ⟨pv, hpv⟩ : ∃ pv, ss[i].t = pv := ⟨_, rfl⟩
    have hpk : Hid (prevT ss k = some pv) := by show _ = _; rw [hki, prevT_succ, List.getElem?_eq_getElem hi, ← hpv]; rfl
    have hpv0 : 0 ≤ pv := hp.out pv hpk.out
    have q0 := (HS.out.cells _ rfl i hi).1
    rw [hpv] at q0
    simp only at q0
    have q1 : ∀ n, (((w.alloc (.cells #[.string nm, .int .i64 sp, .int .i64 st, .slice (some ⟨b, off, none⟩) ss.length sc, .slice lo ls.length lc, .slice to_ ts.length tc] 26)).alloc (.cells #[.int .i64 t, .int .i64 px, .int .i64 py, .int .i64 pz, .int .i64 pp, .int .i64 pq, .int .i64 ps] 28)).drewN n).cell? ⟨b, off + i * 7, none⟩ = some (.int .i64 pv) := fun n => grown_cell (grown_trans (grown_trans (World.grownBy_alloc _ _ _) (World.grownBy_alloc _ _ _)) (grown_drewN _ _ _)) q0
    have e0 : ((k : Int) == 0) = false := by simp; omega
    have e2 : decide (0 < (k : Int)) = true := by simp; omega
    have e3 : 0 < k := by omega
    have ea : ((k : Int) - 1).toNat = i := by omega
    have pa : (0 : Int) ≤ (k : Int) - 1 := by omega
    have pb : (1 : Int) ≤ (k : Int) := by omega
    have ba : (k : Int) - 1 < (ss.length : Int) := by omega
    have ra : IntKind.i64.wrap ((k : Int) - 1) = (k : Int) - 1 := by rw [IntKind.wrap_i64]; omega
    have HKI := Lib.hid hki
    clear hki hpv q0 hk0
    by_cases ht : t ≤ pv
    · have e1 : decide (t ≤ pv) = true := by simpa using ht
      have HE := RE (by rw [hpk.out]; exact ht)
      clear RE RO RN
      go_enter Try.func122, Try.ntmps122
      go_wp2_with fail
      go_quiet (fail)
      clear e0 e2
      go_wp2_with fail
      go_ret
      exact ⟨ret_int HE.out.symm, grown_trans (grown_trans (World.grownBy_alloc _ _ _) (World.grownBy_alloc _ _ _)) (grown_drewN _ _ _)⟩
    · have e1 : decide (t ≤ pv) = false := by simpa using ht
      have tl0 : 0 ≤ t := by omega
      have NE : Hid (¬ early (prevT ss k) t) := by show ¬ _; rw [hpk.out]; unfold early; exact ht
      clear ht
      by_cases ta : 1000000 < t
      · have HE := RO NE.out (by unfold smpIn; simp only; omega)
        clear RE RO RN
        go_enter Try.func122, Try.ntmps122
        go_wp2_with fail
        go_quiet (fail)
        clear e0 e2 q1 ea pa pb ba ra
        go_wp2_with fail
        go_ret
        exact ⟨ret_int HE.out.symm, grown_trans (grown_trans (World.grownBy_alloc _ _ _) (World.grownBy_alloc _ _ _)) (grown_drewN _ _ _)⟩
      by_cases tb : 86399999999 < st + t
      · have HE := RO NE.out (by unfold smpIn; simp only; omega)
        clear RE RO RN
        go_enter Try.func122, Try.ntmps122
        go_wp2_with fail
        go_quiet (fail)
        clear e0 e2 q1 ea pa pb ba ra
        go_wp2_with fail
        go_ret
        exact ⟨ret_int HE.out.symm, grown_trans (grown_trans (World.grownBy_alloc _ _ _) (World.grownBy_alloc _ _ _)) (grown_drewN _ _ _)⟩
      by_cases t0 : -100000000 ≤ px ∧ px ≤ 100000000
      rotate_left
      · have HE := RO NE.out (by unfold smpIn; simp only; omega)
        have Q0 : Hid (px < -100000000 ∨ 100000000 < px) := by show _ ∨ _; omega
        clear RE RO RN t0
        go_enter Try.func122, Try.ntmps122
        go_wp2_with fail
        go_quiet (fail)
        clear e0 e2 q1 ea pa pb ba ra
        go_wp2_with fail
        refine (out_yes _ _ _ Q0.out _).mono ?_; rintro e w1 ⟨rfl, rfl⟩
        go_wp2_with fail
        go_ret
        exact ⟨ret_int HE.out.symm, grown_trans (grown_trans (World.grownBy_alloc _ _ _) (World.grownBy_alloc _ _ _)) (grown_drewN _ _ _)⟩
      have Q0 : Hid (-100000000 ≤ px ∧ px ≤ 100000000) := t0
      by_cases t1 : -100000000 ≤ py ∧ py ≤ 100000000
      rotate_left
      · have HE := RO NE.out (by unfold smpIn; simp only; omega)
        have Q1 : Hid (py < -100000000 ∨ 100000000 < py) := by show _ ∨ _; omega
        clear RE RO RN t1
        go_enter Try.func122, Try.ntmps122
        go_wp2_with fail
        go_quiet (fail)
        clear e0 e2 q1 ea pa pb ba ra
        go_wp2_with fail
        refine (out_no _ _ _ Q0.out.1 Q0.out.2 _).mono ?_; rintro e w1 ⟨rfl, rfl⟩
        go_wp2_with fail
        refine (out_yes _ _ _ Q1.out _).mono ?_; rintro e w1 ⟨rfl, rfl⟩
        go_wp2_with fail
        go_ret
        exact ⟨ret_int HE.out.symm, grown_trans (grown_trans (World.grownBy_alloc _ _ _) (World.grownBy_alloc _ _ _)) (grown_drewN _ _ _)⟩
      have Q1 : Hid (-100000000 ≤ py ∧ py ≤ 100000000) := t1
      by_cases t2 : -100000 ≤ pz ∧ pz ≤ 100000
      rotate_left
      · have HE := RO NE.out (by unfold smpIn; simp only; omega)
        have Q2 : Hid (pz < -100000 ∨ 100000 < pz) := by show _ ∨ _; omega
        clear RE RO RN t2
        go_enter Try.func122, Try.ntmps122
        go_wp2_with fail
        go_quiet (fail)
        clear e0 e2 q1 ea pa pb ba ra
        go_wp2_with fail
        refine (out_no _ _ _ Q0.out.1 Q0.out.2 _).mono ?_; rintro e w1 ⟨rfl, rfl⟩
        go_wp2_with fail
        refine (out_no _ _ _ Q1.out.1 Q1.out.2 _).mono ?_; rintro e w1 ⟨rfl, rfl⟩
        go_wp2_with fail
        refine (out_yes _ _ _ Q2.out _).mono ?_; rintro e w1 ⟨rfl, rfl⟩
        go_wp2_with fail
        go_ret
        exact ⟨ret_int HE.out.symm, grown_trans (grown_trans (World.grownBy_alloc _ _ _) (World.grownBy_alloc _ _ _)) (grown_drewN _ _ _)⟩
      have Q2 : Hid (-100000 ≤ pz ∧ pz ≤ 100000) := t2
      by_cases t3 : -1 ≤ pp ∧ pp ≤ 300
      rotate_left
      · have HE := RO NE.out (by unfold smpIn; simp only; omega)
        have Q3 : Hid (pp < -1 ∨ 300 < pp) := by show _ ∨ _; omega
        clear RE RO RN t3
        go_enter Try.func122, Try.ntmps122
        go_wp2_with fail
        go_quiet (fail)
        clear e0 e2 q1 ea pa pb ba ra
        go_wp2_with fail
        refine (out_no _ _ _ Q0.out.1 Q0.out.2 _).mono ?_; rintro e w1 ⟨rfl, rfl⟩
        go_wp2_with fail
        refine (out_no _ _ _ Q1.out.1 Q1.out.2 _).mono ?_; rintro e w1 ⟨rfl, rfl⟩
        go_wp2_with fail
        refine (out_no _ _ _ Q2.out.1 Q2.out.2 _).mono ?_; rintro e w1 ⟨rfl, rfl⟩
        go_wp2_with fail
        refine (out_yes _ _ _ Q3.out _).mono ?_; rintro e w1 ⟨rfl, rfl⟩
        go_wp2_with fail
        go_ret
        exact ⟨ret_int HE.out.symm, grown_trans (grown_trans (World.grownBy_alloc _ _ _) (World.grownBy_alloc _ _ _)) (grown_drewN _ _ _)⟩
      have Q3 : Hid (-1 ≤ pp ∧ pp ≤ 300) := t3
      by_cases t4 : -1 ≤ pq ∧ pq ≤ 3000
      rotate_left
      · have HE := RO NE.out (by unfold smpIn; simp only; omega)
        have Q4 : Hid (pq < -1 ∨ 3000 < pq) := by show _ ∨ _; omega
        clear RE RO RN t4
        go_enter Try.func122, Try.ntmps122
        go_wp2_with fail
        go_quiet (fail)
        clear e0 e2 q1 ea pa pb ba ra
        go_wp2_with fail
        refine (out_no _ _ _ Q0.out.1 Q0.out.2 _).mono ?_; rintro e w1 ⟨rfl, rfl⟩
        go_wp2_with fail
        refine (out_no _ _ _ Q1.out.1 Q1.out.2 _).mono ?_; rintro e w1 ⟨rfl, rfl⟩
        go_wp2_with fail
        refine (out_no _ _ _ Q2.out.1 Q2.out.2 _).mono ?_; rintro e w1 ⟨rfl, rfl⟩
        go_wp2_with fail
        refine (out_no _ _ _ Q3.out.1 Q3.out.2 _).mono ?_; rintro e w1 ⟨rfl, rfl⟩
        go_wp2_with fail
        refine (out_yes _ _ _ Q4.out _).mono ?_; rintro e w1 ⟨rfl, rfl⟩
        go_wp2_with fail
        go_ret
        exact ⟨ret_int HE.out.symm, grown_trans (grown_trans (World.grownBy_alloc _ _ _) (World.grownBy_alloc _ _ _)) (grown_drewN _ _ _)⟩
      have Q4 : Hid (-1 ≤ pq ∧ pq ≤ 3000) := t4
      by_cases t5 : -1 ≤ ps ∧ ps ≤ 300
      rotate_left
      · have HE := RO NE.out (by unfold smpIn; simp only; omega)
        have Q5 : Hid (ps < -1 ∨ 300 < ps) := by show _ ∨ _; omega
        clear RE RO RN t5
        go_enter Try.func122, Try.ntmps122
        go_wp2_with fail
        go_quiet (fail)
        clear e0 e2 q1 ea pa pb ba ra
        go_wp2_with fail
        refine (out_no _ _ _ Q0.out.1 Q0.out.2 _).mono ?_; rintro e w1 ⟨rfl, rfl⟩
        go_wp2_with fail
        refine (out_no _ _ _ Q1.out.1 Q1.out.2 _).mono ?_; rintro e w1 ⟨rfl, rfl⟩
        go_wp2_with fail
        refine (out_no _ _ _ Q2.out.1 Q2.out.2 _).mono ?_; rintro e w1 ⟨rfl, rfl⟩
        go_wp2_with fail
        refine (out_no _ _ _ Q3.out.1 Q3.out.2 _).mono ?_; rintro e w1 ⟨rfl, rfl⟩
        go_wp2_with fail
        refine (out_no _ _ _ Q4.out.1 Q4.out.2 _).mono ?_; rintro e w1 ⟨rfl, rfl⟩
        go_wp2_with fail
        refine (out_yes _ _ _ Q5.out _).mono ?_; rintro e w1 ⟨rfl, rfl⟩
        go_wp2_with fail
        go_ret
        exact ⟨ret_int HE.out.symm, grown_trans (grown_trans (World.grownBy_alloc _ _ _) (World.grownBy_alloc _ _ _)) (grown_drewN _ _ _)⟩
      have Q5 : Hid (-1 ≤ ps ∧ ps ≤ 300) := t5
      have HE := RN NE.out (by unfold smpIn; simp only; omega)
      clear RE RO RN t0 t1 t2 t3 t4 t5
      go_enter Try.func122, Try.ntmps122
      go_wp2_with fail
      go_quiet (fail)
      clear e0 e2 q1 ea pa pb ba ra
      go_wp2_with fail
      refine (out_no _ _ _ Q0.out.1 Q0.out.2 _).mono ?_; rintro e w1 ⟨rfl, rfl⟩
      go_wp2_with fail
      refine (out_no _ _ _ Q1.out.1 Q1.out.2 _).mono ?_; rintro e w1 ⟨rfl, rfl⟩
      go_wp2_with fail
      refine (out_no _ _ _ Q2.out.1 Q2.out.2 _).mono ?_; rintro e w1 ⟨rfl, rfl⟩
      go_wp2_with fail
      refine (out_no _ _ _ Q3.out.1 Q3.out.2 _).mono ?_; rintro e w1 ⟨rfl, rfl⟩
      go_wp2_with fail
      refine (out_no _ _ _ Q4.out.1 Q4.out.2 _).mono ?_; rintro e w1 ⟨rfl, rfl⟩
      go_wp2_with fail
      refine (out_no _ _ _ Q5.out.1 Q5.out.2 _).mono ?_; rintro e w1 ⟨rfl, rfl⟩
      go_wp2_with fail
      go_ret
      exact ⟨ret_int HE.out.symm, grown_trans (grown_trans (World.grownBy_alloc _ _ _) (World.grownBy_alloc _ _ _)) (grown_drewN _ _ _)⟩

end Go.Proofs.Ytgkhhfojioepgaa
namespace Go.Proofs.Ytgkhhfojioepgaa
open Go.RowKit
set_option linter.unusedSimpArgs false
set_option linter.unusedVariables false

theorem rspan_some (a : Act) (b off n : Nat) (hso : a.so = some ⟨b, off, none⟩) (hn : a.ss.length = n + 1) (hl : (a.ss.length : Int) ≤ 9223372036854775807) (w : World) (hs : SmpsAt w a.so a.ss) {E : Int} (hE : Hid (spanL a.ss = E)) :
    Calls Try.prog 60 #[a.val] w fun e w' => e = .returned (.int .i64 E) ∧ w.grownBy w' none := by
  obtain ⟨nm, sp, st, so, sc, ss, lo, lc, ls, to_, tc, ts⟩ := a
  simp only [Act.val] at *
  subst hso
  have c0 := (hs.cells _ rfl n (by omega)).1
  have hv : (ss[n]'(by omega)).t = E := by rw [← hE.out]; exact (spanL_at hn).symm
  rw [hv] at c0
  simp only at c0
  have e0 : ((ss.length : Int) == 0) = false := by rw [beq_eq_false_iff_ne]; omega
  have ea : ((ss.length : Int) - 1).toNat = n := by omega
  have pa : (0 : Int) ≤ (ss.length : Int) - 1 := by omega
  have pb : (1 : Int) ≤ (ss.length : Int) := by omega
  have pc : 1 ≤ ss.length := by omega
  have HN := Lib.hid hn; have HS := Lib.hid hs
  clear hn hs hv hE
  go_enter Try.func60, Try.ntmps60
  have c1 := grown_cell (World.grownBy_alloc w (.cells #[.string nm, .int .i64 sp, .int .i64 st, .slice (some ⟨b, off, none⟩) ss.length sc, .slice lo ls.length lc, .slice to_ ts.length tc] 26) none) c0
  go_wp2
  go_ret
  exact ⟨rfl, World.grownBy_alloc _ _ _⟩
theorem rspan_any (a : Act) (hl : (a.ss.length : Int) ≤ 9223372036854775807) (w : World) (hs : SmpsAt w a.so a.ss) {E : Int} (hE : Hid (spanL a.ss = E)) :
    Calls Try.prog 60 #[a.val] w fun e w' => e = .returned (.int .i64 E) ∧ w.grownBy w' none := by
  obtain ⟨nm, sp, st, so, sc, ss, lo, lc, ls, to_, tc, ts⟩ := a
  cases ss with
  | nil =>
    have HV : Hid (E = 0) := by show _ = _; rw [← hE.out]; rfl
    simp only [Act.val, List.length_nil] at *
    clear hs hE hl
    go_enter Try.func60, Try.ntmps60
    go_wp2
    go_ret
    exact ⟨ret_int HV.out.symm, World.grownBy_alloc _ _ _⟩
  | cons x r =>
    match so, hs with
    | none, hs => exact absurd (hs.nil rfl) (by simp)
    | some ⟨b, off, spt⟩, hs =>
      have h := hs.spot _ rfl (by simp)
      simp only at h
      subst h
      exact rspan_some _ b off r.length rfl rfl hl w hs hE

def prevE (l : List LapV) : Nat → Option Int
  | 0 => none
  | k + 1 => (l[k]?).map LapV.to_
theorem prevE_succ (l : List LapV) (k : Nat) : prevE l (k + 1) = (l[k]?).map LapV.to_ := rfl
def soon : Option Int → Int → Prop
  | none, _ => False
  | some e, f => f < e
instance (e : Option Int) (f : Int) : Decidable (soon e f) := by cases e <;> (unfold soon; exact inferInstance)
def lapF (span : Int) (en : Option Int) (x : LapV) : Int := if x.fr < 0 ∨ x.to_ ≤ x.fr ∨ span < x.to_ then 9 else if soon en x.fr then 10 else if lapNameB x.name = true then 0 else 8

set_option maxRecDepth 100000 in
set_option maxHeartbeats 6400000 in
theorem rlap_some (nm : ByteArray) (sp st : Int) (so : Option Addr) (sc : Nat) (ss : List Smp) (b off lc : Nat) (ls : List LapV) (to_ : Option Addr) (tc : Nat) (ts : List ByteArray) (sl : (ss.length : Int) ≤ 9223372036854775807) (ll : (ls.length : Int) ≤ 9223372036854775807) (k : Nat) (hlt : k < ls.length) (w : World) (hs : SmpsAt w so ss) (hl : LapsAt w (some ⟨b, off, none⟩) ls) {SPN : Int} (hsp : Hid (spanL ss = SPN)) {E : Int} (hE : Hid (lapF SPN (prevE ls k) ls[k] = E)) :
    Calls Try.prog 123 #[.agg #[.string nm, .int .i64 sp, .int .i64 st, .slice so ss.length sc, .slice (some ⟨b, off, none⟩) ls.length lc, .slice to_ ts.length tc], .int .i64 k] w fun e w' => e = .returned (.int .i64 E) ∧ w.grownBy w' none := by
  obtain ⟨c0, c1, c2⟩ := hl.cells _ rfl k hlt
  have hsz := hl.sizes k hlt
  simp only at c0 c1 c2
  have R9 : (ls[k].fr < 0 ∨ ls[k].to_ ≤ ls[k].fr ∨ SPN < ls[k].to_) → Hid (E = 9) := fun h => by show _ = _; rw [← hE.out, lapF, if_pos h]
  have RE : ¬ (ls[k].fr < 0 ∨ ls[k].to_ ≤ ls[k].fr ∨ SPN < ls[k].to_) → soon (prevE ls k) ls[k].fr → Hid (E = 10) := fun h h' => by show _ = _; rw [← hE.out, lapF, if_neg h, if_pos h']
  have R8 : ¬ (ls[k].fr < 0 ∨ ls[k].to_ ≤ ls[k].fr ∨ SPN < ls[k].to_) → ¬ soon (prevE ls k) ls[k].fr → Hid (lapNameB ls[k].name = false → Hid (E = 8)) := fun h h' hn => by show _ = _; rw [← hE.out, lapF, if_neg h, if_neg h', if_neg (by simp [hn])]
  have R0 : ¬ (ls[k].fr < 0 ∨ ls[k].to_ ≤ ls[k].fr ∨ SPN < ls[k].to_) → ¬ soon (prevE ls k) ls[k].fr → Hid (lapNameB ls[k].name = true → Hid (E = 0)) := fun h h' hn => by show _ = _; rw [← hE.out, lapF, if_neg h, if_neg h', if_pos hn]
  clear hE
  have HL := Lib.hid hl; have HLT := Lib.hid hlt; have HS := Lib.hid hs; have HSP := hsp; have SL := Lib.hid sl
  clear hl hs hsp
  generalize ls[k] = x at *
  obtain ⟨fr, tt, ln⟩ := x
  simp only at c0 c1 c2 R9 RE R8 R0 hsz
  have hsz2 : (ln.size : Int) ≤ 140737488355328 := by omega
  have B0 := World.grownBy_alloc w (.cells #[.string nm, .int .i64 sp, .int .i64 st, .slice so ss.length sc, .slice (some ⟨b, off, none⟩) ls.length lc, .slice to_ ts.length tc] 26) none
  have d0 := grown_cell B0 c0; have d1 := grown_cell B0 c1; have d2 := grown_cell B0 c2
  clear B0
  by_cases a1 : fr < 0
  · have HE := R9 (.inl a1)
    have g1 : decide (fr < 0) = true := by simpa using a1
    clear R9 RE R8 R0
    go_enter Try.func123, Try.ntmps123
    go_wp2_with fail
    go_quiet (fail)
    go_wp2_with fail
    go_ret
    exact ⟨ret_int HE.out.symm, grown_trans (grown_trans (World.grownBy_alloc _ _ _) (World.grownBy_alloc _ _ _)) (grown_drewN _ _ _)⟩
  have g1 : decide (fr < 0) = false := by simpa using a1
  by_cases a2 : tt ≤ fr
  · have HE := R9 (.inr (.inl a2))
    have g2 : decide (tt ≤ fr) = true := by simpa using a2
    clear R9 RE R8 R0
    go_enter Try.func123, Try.ntmps123
    go_wp2_with fail
    go_quiet (fail)
    go_wp2_with fail
    go_ret
    exact ⟨ret_int HE.out.symm, grown_trans (grown_trans (World.grownBy_alloc _ _ _) (World.grownBy_alloc _ _ _)) (grown_drewN _ _ _)⟩
  have g2 : decide (tt ≤ fr) = false := by simpa using a2
  by_cases a3 : SPN < tt
  · have HE := R9 (.inr (.inr a3))
    have g3 : decide (SPN < tt) = true := by simpa using a3
    clear R9 RE R8 R0
    go_enter Try.func123, Try.ntmps123
    have hS0 : (World.grownBy w ((w.alloc (.cells #[.string nm, .int .i64 sp, .int .i64 st, .slice so ss.length sc, .slice (some ⟨b, off, none⟩) ls.length lc, .slice to_ ts.length tc] 26)).alloc (.cells #[.int .i64 fr, .int .i64 tt, .string ln] 77)) none ∧ World.cell? ((w.alloc (.cells #[.string nm, .int .i64 sp, .int .i64 st, .slice so ss.length sc, .slice (some ⟨b, off, none⟩) ls.length lc, .slice to_ ts.length tc] 26)).alloc (.cells #[.int .i64 fr, .int .i64 tt, .string ln] 77)) ⟨w.heap.size, 0, none⟩ = some (.string nm) ∧ World.cell? ((w.alloc (.cells #[.string nm, .int .i64 sp, .int .i64 st, .slice so ss.length sc, .slice (some ⟨b, off, none⟩) ls.length lc, .slice to_ ts.length tc] 26)).alloc (.cells #[.int .i64 fr, .int .i64 tt, .string ln] 77)) ⟨w.heap.size, 1, none⟩ = some (.int .i64 sp) ∧ World.cell? ((w.alloc (.cells #[.string nm, .int .i64 sp, .int .i64 st, .slice so ss.length sc, .slice (some ⟨b, off, none⟩) ls.length lc, .slice to_ ts.length tc] 26)).alloc (.cells #[.int .i64 fr, .int .i64 tt, .string ln] 77)) ⟨w.heap.size, 2, none⟩ = some (.int .i64 st) ∧ World.cell? ((w.alloc (.cells #[.string nm, .int .i64 sp, .int .i64 st, .slice so ss.length sc, .slice (some ⟨b, off, none⟩) ls.length lc, .slice to_ ts.length tc] 26)).alloc (.cells #[.int .i64 fr, .int .i64 tt, .string ln] 77)) ⟨w.heap.size, 3, none⟩ = some (.slice so ss.length sc) ∧ World.cell? ((w.alloc (.cells #[.string nm, .int .i64 sp, .int .i64 st, .slice so ss.length sc, .slice (some ⟨b, off, none⟩) ls.length lc, .slice to_ ts.length tc] 26)).alloc (.cells #[.int .i64 fr, .int .i64 tt, .string ln] 77)) ⟨w.heap.size, 4, none⟩ = some (.slice (some ⟨b, off, none⟩) ls.length lc) ∧ World.cell? ((w.alloc (.cells #[.string nm, .int .i64 sp, .int .i64 st, .slice so ss.length sc, .slice (some ⟨b, off, none⟩) ls.length lc, .slice to_ ts.length tc] 26)).alloc (.cells #[.int .i64 fr, .int .i64 tt, .string ln] 77)) ⟨w.heap.size, 5, none⟩ = some (.slice to_ ts.length tc) ∧ World.cell? ((w.alloc (.cells #[.string nm, .int .i64 sp, .int .i64 st, .slice so ss.length sc, .slice (some ⟨b, off, none⟩) ls.length lc, .slice to_ ts.length tc] 26)).alloc (.cells #[.int .i64 fr, .int .i64 tt, .string ln] 77)) ⟨w.heap.size + 1, 0, none⟩ = some (.int .i64 fr) ∧ World.cell? ((w.alloc (.cells #[.string nm, .int .i64 sp, .int .i64 st, .slice so ss.length sc, .slice (some ⟨b, off, none⟩) ls.length lc, .slice to_ ts.length tc] 26)).alloc (.cells #[.int .i64 fr, .int .i64 tt, .string ln] 77)) ⟨w.heap.size + 1, 1, none⟩ = some (.int .i64 tt) ∧ World.cell? ((w.alloc (.cells #[.string nm, .int .i64 sp, .int .i64 st, .slice so ss.length sc, .slice (some ⟨b, off, none⟩) ls.length lc, .slice to_ ts.length tc] 26)).alloc (.cells #[.int .i64 fr, .int .i64 tt, .string ln] 77)) ⟨w.heap.size + 1, 2, none⟩ = some (.string ln)) := ⟨grown_trans (World.grownBy_alloc _ _ _) (World.grownBy_alloc _ _ _), by simp, by simp, by simp, by simp, by simp, by simp, by simp, by simp, by simp⟩
    have hstep : ∀ W W' : World, (World.grownBy w W none ∧ World.cell? W ⟨w.heap.size, 0, none⟩ = some (.string nm) ∧ World.cell? W ⟨w.heap.size, 1, none⟩ = some (.int .i64 sp) ∧ World.cell? W ⟨w.heap.size, 2, none⟩ = some (.int .i64 st) ∧ World.cell? W ⟨w.heap.size, 3, none⟩ = some (.slice so ss.length sc) ∧ World.cell? W ⟨w.heap.size, 4, none⟩ = some (.slice (some ⟨b, off, none⟩) ls.length lc) ∧ World.cell? W ⟨w.heap.size, 5, none⟩ = some (.slice to_ ts.length tc) ∧ World.cell? W ⟨w.heap.size + 1, 0, none⟩ = some (.int .i64 fr) ∧ World.cell? W ⟨w.heap.size + 1, 1, none⟩ = some (.int .i64 tt) ∧ World.cell? W ⟨w.heap.size + 1, 2, none⟩ = some (.string ln)) → W.grownBy W' none → (World.grownBy w W' none ∧ World.cell? W' ⟨w.heap.size, 0, none⟩ = some (.string nm) ∧ World.cell? W' ⟨w.heap.size, 1, none⟩ = some (.int .i64 sp) ∧ World.cell? W' ⟨w.heap.size, 2, none⟩ = some (.int .i64 st) ∧ World.cell? W' ⟨w.heap.size, 3, none⟩ = some (.slice so ss.length sc) ∧ World.cell? W' ⟨w.heap.size, 4, none⟩ = some (.slice (some ⟨b, off, none⟩) ls.length lc) ∧ World.cell? W' ⟨w.heap.size, 5, none⟩ = some (.slice to_ ts.length tc) ∧ World.cell? W' ⟨w.heap.size + 1, 0, none⟩ = some (.int .i64 fr) ∧ World.cell? W' ⟨w.heap.size + 1, 1, none⟩ = some (.int .i64 tt) ∧ World.cell? W' ⟨w.heap.size + 1, 2, none⟩ = some (.string ln)) := fun W W' h g => ⟨grown_trans h.1 g, grown_cell g h.2.1, grown_cell g h.2.2.1, grown_cell g h.2.2.2.1, grown_cell g h.2.2.2.2.1, grown_cell g h.2.2.2.2.2.1, grown_cell g h.2.2.2.2.2.2.1, grown_cell g h.2.2.2.2.2.2.2.1, grown_cell g h.2.2.2.2.2.2.2.2.1, grown_cell g h.2.2.2.2.2.2.2.2.2⟩
    have hSd : (World.grownBy w ((w.alloc (.cells #[.string nm, .int .i64 sp, .int .i64 st, .slice so ss.length sc, .slice (some ⟨b, off, none⟩) ls.length lc, .slice to_ ts.length tc] 26)).alloc (.cells #[.int .i64 fr, .int .i64 tt, .string ln] 77)).drew none ∧ World.cell? ((w.alloc (.cells #[.string nm, .int .i64 sp, .int .i64 st, .slice so ss.length sc, .slice (some ⟨b, off, none⟩) ls.length lc, .slice to_ ts.length tc] 26)).alloc (.cells #[.int .i64 fr, .int .i64 tt, .string ln] 77)).drew ⟨w.heap.size, 0, none⟩ = some (.string nm) ∧ World.cell? ((w.alloc (.cells #[.string nm, .int .i64 sp, .int .i64 st, .slice so ss.length sc, .slice (some ⟨b, off, none⟩) ls.length lc, .slice to_ ts.length tc] 26)).alloc (.cells #[.int .i64 fr, .int .i64 tt, .string ln] 77)).drew ⟨w.heap.size, 1, none⟩ = some (.int .i64 sp) ∧ World.cell? ((w.alloc (.cells #[.string nm, .int .i64 sp, .int .i64 st, .slice so ss.length sc, .slice (some ⟨b, off, none⟩) ls.length lc, .slice to_ ts.length tc] 26)).alloc (.cells #[.int .i64 fr, .int .i64 tt, .string ln] 77)).drew ⟨w.heap.size, 2, none⟩ = some (.int .i64 st) ∧ World.cell? ((w.alloc (.cells #[.string nm, .int .i64 sp, .int .i64 st, .slice so ss.length sc, .slice (some ⟨b, off, none⟩) ls.length lc, .slice to_ ts.length tc] 26)).alloc (.cells #[.int .i64 fr, .int .i64 tt, .string ln] 77)).drew ⟨w.heap.size, 3, none⟩ = some (.slice so ss.length sc) ∧ World.cell? ((w.alloc (.cells #[.string nm, .int .i64 sp, .int .i64 st, .slice so ss.length sc, .slice (some ⟨b, off, none⟩) ls.length lc, .slice to_ ts.length tc] 26)).alloc (.cells #[.int .i64 fr, .int .i64 tt, .string ln] 77)).drew ⟨w.heap.size, 4, none⟩ = some (.slice (some ⟨b, off, none⟩) ls.length lc) ∧ World.cell? ((w.alloc (.cells #[.string nm, .int .i64 sp, .int .i64 st, .slice so ss.length sc, .slice (some ⟨b, off, none⟩) ls.length lc, .slice to_ ts.length tc] 26)).alloc (.cells #[.int .i64 fr, .int .i64 tt, .string ln] 77)).drew ⟨w.heap.size, 5, none⟩ = some (.slice to_ ts.length tc) ∧ World.cell? ((w.alloc (.cells #[.string nm, .int .i64 sp, .int .i64 st, .slice so ss.length sc, .slice (some ⟨b, off, none⟩) ls.length lc, .slice to_ ts.length tc] 26)).alloc (.cells #[.int .i64 fr, .int .i64 tt, .string ln] 77)).drew ⟨w.heap.size + 1, 0, none⟩ = some (.int .i64 fr) ∧ World.cell? ((w.alloc (.cells #[.string nm, .int .i64 sp, .int .i64 st, .slice so ss.length sc, .slice (some ⟨b, off, none⟩) ls.length lc, .slice to_ ts.length tc] 26)).alloc (.cells #[.int .i64 fr, .int .i64 tt, .string ln] 77)).drew ⟨w.heap.size + 1, 1, none⟩ = some (.int .i64 tt) ∧ World.cell? ((w.alloc (.cells #[.string nm, .int .i64 sp, .int .i64 st, .slice so ss.length sc, .slice (some ⟨b, off, none⟩) ls.length lc, .slice to_ ts.length tc] 26)).alloc (.cells #[.int .i64 fr, .int .i64 tt, .string ln] 77)).drew ⟨w.heap.size + 1, 2, none⟩ = some (.string ln)) := hstep _ _ hS0 (grown_drewN _ _ 1)
    have hof : ∀ W : World, (World.grownBy w W none ∧ World.cell? W ⟨w.heap.size, 0, none⟩ = some (.string nm) ∧ World.cell? W ⟨w.heap.size, 1, none⟩ = some (.int .i64 sp) ∧ World.cell? W ⟨w.heap.size, 2, none⟩ = some (.int .i64 st) ∧ World.cell? W ⟨w.heap.size, 3, none⟩ = some (.slice so ss.length sc) ∧ World.cell? W ⟨w.heap.size, 4, none⟩ = some (.slice (some ⟨b, off, none⟩) ls.length lc) ∧ World.cell? W ⟨w.heap.size, 5, none⟩ = some (.slice to_ ts.length tc) ∧ World.cell? W ⟨w.heap.size + 1, 0, none⟩ = some (.int .i64 fr) ∧ World.cell? W ⟨w.heap.size + 1, 1, none⟩ = some (.int .i64 tt) ∧ World.cell? W ⟨w.heap.size + 1, 2, none⟩ = some (.string ln)) → SmpsAt W so ss := fun W h => HS.out.grown h.1
    clear hS0
    go_wp2_with fail
    go_region_held3 (fun W => (World.grownBy w W none ∧ World.cell? W ⟨w.heap.size, 0, none⟩ = some (.string nm) ∧ World.cell? W ⟨w.heap.size, 1, none⟩ = some (.int .i64 sp) ∧ World.cell? W ⟨w.heap.size, 2, none⟩ = some (.int .i64 st) ∧ World.cell? W ⟨w.heap.size, 3, none⟩ = some (.slice so ss.length sc) ∧ World.cell? W ⟨w.heap.size, 4, none⟩ = some (.slice (some ⟨b, off, none⟩) ls.length lc) ∧ World.cell? W ⟨w.heap.size, 5, none⟩ = some (.slice to_ ts.length tc) ∧ World.cell? W ⟨w.heap.size + 1, 0, none⟩ = some (.int .i64 fr) ∧ World.cell? W ⟨w.heap.size + 1, 1, none⟩ = some (.int .i64 tt) ∧ World.cell? W ⟨w.heap.size + 1, 2, none⟩ = some (.string ln))) (first | exact hSd | (refine hstep _ _ ?_ (by assumption) <;> assumption)) (first
      | (go_at_call 60; refine (rspan_any ⟨nm, sp, st, so, sc, ss, some ⟨b, off, none⟩, lc, ls, to_, tc, ts⟩ SL.out _ (hof _ (by assumption)) HSP).mono ?_; rintro x w7 ⟨rfl, hg7⟩))
    all_goals
      rename_i hfin
      clear hSd hof
      obtain ⟨G9, f0, f1, f2, f3, f4, f5, l0, l1, l2⟩ := hfin
      go_wp2_with fail
      go_ret
      exact ⟨ret_int HE.out.symm, G9⟩
  have g3 : decide (SPN < tt) = false := by simpa using a3
  have hna : ¬ (fr < 0 ∨ tt ≤ fr ∨ SPN < tt) := by omega
  by_cases hk0 : k = 0
  · have e2 : decide (0 < (k : Int)) = false := by simp; omega
    have e3 : decide (0 < k) = false := by simp; omega
    have hpk : prevE ls k = none := by subst hk0; exact rfl
    have HK := Lib.hid hk0
    clear hk0
    rw [hpk] at R8 R0
    replace R8 := R8 hna (by simp [soon])
    replace R0 := R0 hna (by simp [soon])
    clear R9 RE hna hpk
    go_enter Try.func123, Try.ntmps123
    have hS0 : (World.grownBy w ((w.alloc (.cells #[.string nm, .int .i64 sp, .int .i64 st, .slice so ss.length sc, .slice (some ⟨b, off, none⟩) ls.length lc, .slice to_ ts.length tc] 26)).alloc (.cells #[.int .i64 fr, .int .i64 tt, .string ln] 77)) none ∧ World.cell? ((w.alloc (.cells #[.string nm, .int .i64 sp, .int .i64 st, .slice so ss.length sc, .slice (some ⟨b, off, none⟩) ls.length lc, .slice to_ ts.length tc] 26)).alloc (.cells #[.int .i64 fr, .int .i64 tt, .string ln] 77)) ⟨w.heap.size, 0, none⟩ = some (.string nm) ∧ World.cell? ((w.alloc (.cells #[.string nm, .int .i64 sp, .int .i64 st, .slice so ss.length sc, .slice (some ⟨b, off, none⟩) ls.length lc, .slice to_ ts.length tc] 26)).alloc (.cells #[.int .i64 fr, .int .i64 tt, .string ln] 77)) ⟨w.heap.size, 1, none⟩ = some (.int .i64 sp) ∧ World.cell? ((w.alloc (.cells #[.string nm, .int .i64 sp, .int .i64 st, .slice so ss.length sc, .slice (some ⟨b, off, none⟩) ls.length lc, .slice to_ ts.length tc] 26)).alloc (.cells #[.int .i64 fr, .int .i64 tt, .string ln] 77)) ⟨w.heap.size, 2, none⟩ = some (.int .i64 st) ∧ World.cell? ((w.alloc (.cells #[.string nm, .int .i64 sp, .int .i64 st, .slice so ss.length sc, .slice (some ⟨b, off, none⟩) ls.length lc, .slice to_ ts.length tc] 26)).alloc (.cells #[.int .i64 fr, .int .i64 tt, .string ln] 77)) ⟨w.heap.size, 3, none⟩ = some (.slice so ss.length sc) ∧ World.cell? ((w.alloc (.cells #[.string nm, .int .i64 sp, .int .i64 st, .slice so ss.length sc, .slice (some ⟨b, off, none⟩) ls.length lc, .slice to_ ts.length tc] 26)).alloc (.cells #[.int .i64 fr, .int .i64 tt, .string ln] 77)) ⟨w.heap.size, 4, none⟩ = some (.slice (some ⟨b, off, none⟩) ls.length lc) ∧ World.cell? ((w.alloc (.cells #[.string nm, .int .i64 sp, .int .i64 st, .slice so ss.length sc, .slice (some ⟨b, off, none⟩) ls.length lc, .slice to_ ts.length tc] 26)).alloc (.cells #[.int .i64 fr, .int .i64 tt, .string ln] 77)) ⟨w.heap.size, 5, none⟩ = some (.slice to_ ts.length tc) ∧ World.cell? ((w.alloc (.cells #[.string nm, .int .i64 sp, .int .i64 st, .slice so ss.length sc, .slice (some ⟨b, off, none⟩) ls.length lc, .slice to_ ts.length tc] 26)).alloc (.cells #[.int .i64 fr, .int .i64 tt, .string ln] 77)) ⟨w.heap.size + 1, 0, none⟩ = some (.int .i64 fr) ∧ World.cell? ((w.alloc (.cells #[.string nm, .int .i64 sp, .int .i64 st, .slice so ss.length sc, .slice (some ⟨b, off, none⟩) ls.length lc, .slice to_ ts.length tc] 26)).alloc (.cells #[.int .i64 fr, .int .i64 tt, .string ln] 77)) ⟨w.heap.size + 1, 1, none⟩ = some (.int .i64 tt) ∧ World.cell? ((w.alloc (.cells #[.string nm, .int .i64 sp, .int .i64 st, .slice so ss.length sc, .slice (some ⟨b, off, none⟩) ls.length lc, .slice to_ ts.length tc] 26)).alloc (.cells #[.int .i64 fr, .int .i64 tt, .string ln] 77)) ⟨w.heap.size + 1, 2, none⟩ = some (.string ln)) := ⟨grown_trans (World.grownBy_alloc _ _ _) (World.grownBy_alloc _ _ _), by simp, by simp, by simp, by simp, by simp, by simp, by simp, by simp, by simp⟩
    have hstep : ∀ W W' : World, (World.grownBy w W none ∧ World.cell? W ⟨w.heap.size, 0, none⟩ = some (.string nm) ∧ World.cell? W ⟨w.heap.size, 1, none⟩ = some (.int .i64 sp) ∧ World.cell? W ⟨w.heap.size, 2, none⟩ = some (.int .i64 st) ∧ World.cell? W ⟨w.heap.size, 3, none⟩ = some (.slice so ss.length sc) ∧ World.cell? W ⟨w.heap.size, 4, none⟩ = some (.slice (some ⟨b, off, none⟩) ls.length lc) ∧ World.cell? W ⟨w.heap.size, 5, none⟩ = some (.slice to_ ts.length tc) ∧ World.cell? W ⟨w.heap.size + 1, 0, none⟩ = some (.int .i64 fr) ∧ World.cell? W ⟨w.heap.size + 1, 1, none⟩ = some (.int .i64 tt) ∧ World.cell? W ⟨w.heap.size + 1, 2, none⟩ = some (.string ln)) → W.grownBy W' none → (World.grownBy w W' none ∧ World.cell? W' ⟨w.heap.size, 0, none⟩ = some (.string nm) ∧ World.cell? W' ⟨w.heap.size, 1, none⟩ = some (.int .i64 sp) ∧ World.cell? W' ⟨w.heap.size, 2, none⟩ = some (.int .i64 st) ∧ World.cell? W' ⟨w.heap.size, 3, none⟩ = some (.slice so ss.length sc) ∧ World.cell? W' ⟨w.heap.size, 4, none⟩ = some (.slice (some ⟨b, off, none⟩) ls.length lc) ∧ World.cell? W' ⟨w.heap.size, 5, none⟩ = some (.slice to_ ts.length tc) ∧ World.cell? W' ⟨w.heap.size + 1, 0, none⟩ = some (.int .i64 fr) ∧ World.cell? W' ⟨w.heap.size + 1, 1, none⟩ = some (.int .i64 tt) ∧ World.cell? W' ⟨w.heap.size + 1, 2, none⟩ = some (.string ln)) := fun W W' h g => ⟨grown_trans h.1 g, grown_cell g h.2.1, grown_cell g h.2.2.1, grown_cell g h.2.2.2.1, grown_cell g h.2.2.2.2.1, grown_cell g h.2.2.2.2.2.1, grown_cell g h.2.2.2.2.2.2.1, grown_cell g h.2.2.2.2.2.2.2.1, grown_cell g h.2.2.2.2.2.2.2.2.1, grown_cell g h.2.2.2.2.2.2.2.2.2⟩
    have hSd : (World.grownBy w ((w.alloc (.cells #[.string nm, .int .i64 sp, .int .i64 st, .slice so ss.length sc, .slice (some ⟨b, off, none⟩) ls.length lc, .slice to_ ts.length tc] 26)).alloc (.cells #[.int .i64 fr, .int .i64 tt, .string ln] 77)).drew none ∧ World.cell? ((w.alloc (.cells #[.string nm, .int .i64 sp, .int .i64 st, .slice so ss.length sc, .slice (some ⟨b, off, none⟩) ls.length lc, .slice to_ ts.length tc] 26)).alloc (.cells #[.int .i64 fr, .int .i64 tt, .string ln] 77)).drew ⟨w.heap.size, 0, none⟩ = some (.string nm) ∧ World.cell? ((w.alloc (.cells #[.string nm, .int .i64 sp, .int .i64 st, .slice so ss.length sc, .slice (some ⟨b, off, none⟩) ls.length lc, .slice to_ ts.length tc] 26)).alloc (.cells #[.int .i64 fr, .int .i64 tt, .string ln] 77)).drew ⟨w.heap.size, 1, none⟩ = some (.int .i64 sp) ∧ World.cell? ((w.alloc (.cells #[.string nm, .int .i64 sp, .int .i64 st, .slice so ss.length sc, .slice (some ⟨b, off, none⟩) ls.length lc, .slice to_ ts.length tc] 26)).alloc (.cells #[.int .i64 fr, .int .i64 tt, .string ln] 77)).drew ⟨w.heap.size, 2, none⟩ = some (.int .i64 st) ∧ World.cell? ((w.alloc (.cells #[.string nm, .int .i64 sp, .int .i64 st, .slice so ss.length sc, .slice (some ⟨b, off, none⟩) ls.length lc, .slice to_ ts.length tc] 26)).alloc (.cells #[.int .i64 fr, .int .i64 tt, .string ln] 77)).drew ⟨w.heap.size, 3, none⟩ = some (.slice so ss.length sc) ∧ World.cell? ((w.alloc (.cells #[.string nm, .int .i64 sp, .int .i64 st, .slice so ss.length sc, .slice (some ⟨b, off, none⟩) ls.length lc, .slice to_ ts.length tc] 26)).alloc (.cells #[.int .i64 fr, .int .i64 tt, .string ln] 77)).drew ⟨w.heap.size, 4, none⟩ = some (.slice (some ⟨b, off, none⟩) ls.length lc) ∧ World.cell? ((w.alloc (.cells #[.string nm, .int .i64 sp, .int .i64 st, .slice so ss.length sc, .slice (some ⟨b, off, none⟩) ls.length lc, .slice to_ ts.length tc] 26)).alloc (.cells #[.int .i64 fr, .int .i64 tt, .string ln] 77)).drew ⟨w.heap.size, 5, none⟩ = some (.slice to_ ts.length tc) ∧ World.cell? ((w.alloc (.cells #[.string nm, .int .i64 sp, .int .i64 st, .slice so ss.length sc, .slice (some ⟨b, off, none⟩) ls.length lc, .slice to_ ts.length tc] 26)).alloc (.cells #[.int .i64 fr, .int .i64 tt, .string ln] 77)).drew ⟨w.heap.size + 1, 0, none⟩ = some (.int .i64 fr) ∧ World.cell? ((w.alloc (.cells #[.string nm, .int .i64 sp, .int .i64 st, .slice so ss.length sc, .slice (some ⟨b, off, none⟩) ls.length lc, .slice to_ ts.length tc] 26)).alloc (.cells #[.int .i64 fr, .int .i64 tt, .string ln] 77)).drew ⟨w.heap.size + 1, 1, none⟩ = some (.int .i64 tt) ∧ World.cell? ((w.alloc (.cells #[.string nm, .int .i64 sp, .int .i64 st, .slice so ss.length sc, .slice (some ⟨b, off, none⟩) ls.length lc, .slice to_ ts.length tc] 26)).alloc (.cells #[.int .i64 fr, .int .i64 tt, .string ln] 77)).drew ⟨w.heap.size + 1, 2, none⟩ = some (.string ln)) := hstep _ _ hS0 (grown_drewN _ _ 1)
    have hof : ∀ W : World, (World.grownBy w W none ∧ World.cell? W ⟨w.heap.size, 0, none⟩ = some (.string nm) ∧ World.cell? W ⟨w.heap.size, 1, none⟩ = some (.int .i64 sp) ∧ World.cell? W ⟨w.heap.size, 2, none⟩ = some (.int .i64 st) ∧ World.cell? W ⟨w.heap.size, 3, none⟩ = some (.slice so ss.length sc) ∧ World.cell? W ⟨w.heap.size, 4, none⟩ = some (.slice (some ⟨b, off, none⟩) ls.length lc) ∧ World.cell? W ⟨w.heap.size, 5, none⟩ = some (.slice to_ ts.length tc) ∧ World.cell? W ⟨w.heap.size + 1, 0, none⟩ = some (.int .i64 fr) ∧ World.cell? W ⟨w.heap.size + 1, 1, none⟩ = some (.int .i64 tt) ∧ World.cell? W ⟨w.heap.size + 1, 2, none⟩ = some (.string ln)) → SmpsAt W so ss := fun W h => HS.out.grown h.1
    clear hS0
    go_wp2_with fail
    go_region_held3 (fun W => (World.grownBy w W none ∧ World.cell? W ⟨w.heap.size, 0, none⟩ = some (.string nm) ∧ World.cell? W ⟨w.heap.size, 1, none⟩ = some (.int .i64 sp) ∧ World.cell? W ⟨w.heap.size, 2, none⟩ = some (.int .i64 st) ∧ World.cell? W ⟨w.heap.size, 3, none⟩ = some (.slice so ss.length sc) ∧ World.cell? W ⟨w.heap.size, 4, none⟩ = some (.slice (some ⟨b, off, none⟩) ls.length lc) ∧ World.cell? W ⟨w.heap.size, 5, none⟩ = some (.slice to_ ts.length tc) ∧ World.cell? W ⟨w.heap.size + 1, 0, none⟩ = some (.int .i64 fr) ∧ World.cell? W ⟨w.heap.size + 1, 1, none⟩ = some (.int .i64 tt) ∧ World.cell? W ⟨w.heap.size + 1, 2, none⟩ = some (.string ln))) (first | exact hSd | (refine hstep _ _ ?_ (by assumption) <;> assumption)) (first
      | (go_at_call 60; refine (rspan_any ⟨nm, sp, st, so, sc, ss, some ⟨b, off, none⟩, lc, ls, to_, tc, ts⟩ SL.out _ (hof _ (by assumption)) HSP).mono ?_; rintro x w7 ⟨rfl, hg7⟩))
    all_goals
      rename_i hfin
      clear hSd hof
      obtain ⟨G9, f0, f1, f2, f3, f4, f5, l0, l1, l2⟩ := hfin
      clear hstep
      go_wp2_with fail
      go_quiet (fail)
      clear e2 e3
      go_wp2_with fail
      go_loop [6] (fun iv => ∃ j : Nat, j ≤ ln.size ∧ iv = .int .i64 j ∧ Hid (∀ i (h : i < ln.size), i < j → lapC ln[i].toNat = true)) (fun iv => ln.size - (intOf iv).toNat)
      case atStart => exact ⟨0, Nat.zero_le _, rfl, fun i _ h => absurd h (by omega)⟩
      case round =>
        obtain ⟨j, hj, rfl, hinv⟩ := hrel
        by_cases hjl : j < ln.size
        · have hu : (ln[j].toNat : Int) ≤ 255 := by have := ln[j].toNat_lt; omega
          by_cases hc1 : (ln[j].toNat : Int) < 32
          · have HV : Hid (E = 8) := R8.out (by
              refine lapName_bad hjl ?_
              unfold lapC; rw [decide_eq_false (by omega)]; rfl)
            go_wp2_with fail
            refine (out_yes _ _ _ (.inl hc1) _).mono ?_; rintro e w1 ⟨rfl, rfl⟩
            go_wp2_with fail
            go_ret
            exact ⟨ret_int HV.out.symm, grown_trans G9 (grown_drewN _ _ _)⟩
          · by_cases hc2 : 126 < (ln[j].toNat : Int)
            · have HV : Hid (E = 8) := R8.out (by
                refine lapName_bad hjl ?_
                unfold lapC; rw [decide_eq_false (p := ln[j].toNat ≤ 126) (by omega)]; simp)
              go_wp2_with fail
              refine (out_yes _ _ _ (.inr hc2) _).mono ?_; rintro e w1 ⟨rfl, rfl⟩
              go_wp2_with fail
              go_ret
              exact ⟨ret_int HV.out.symm, grown_trans G9 (grown_drewN _ _ _)⟩
            · have HI : Hid (∀ i (h : i < ln.size), i < j + 1 → lapC ln[i].toNat = true) := fun i hi hlt => by
                by_cases e : i = j
                · subst e; unfold lapC; rw [decide_eq_true (by omega), decide_eq_true (by omega)]; rfl
                · exact hinv.out i hi (by omega)
              go_wp2_with fail
              refine (out_no _ _ _ (by omega) (by omega) _).mono ?_; rintro e w1 ⟨rfl, rfl⟩
              go_wp2_with fail
              go_round
              case rel => exact ⟨j + 1, by omega, by go_num, HI⟩
              case measure => simp [intOf]; omega
        · by_cases hc3 : 60 < (ln.size : Int)
          · have HV : Hid (E = 8) := R8.out (lapName_long (by omega))
            go_wp2_with fail
            go_ret
            exact ⟨ret_int HV.out.symm, grown_trans G9 (grown_drewN _ _ _)⟩
          · have HV : Hid (E = 0) := R0.out (lapName_good (by omega) (fun i hi => hinv.out i hi (by omega)))
            go_wp2_with fail
            go_ret
            exact ⟨ret_int HV.out.symm, grown_trans G9 (grown_drewN _ _ _)⟩
  · obtain ⟨i, hki⟩ : ∃ i, k = i + 1 := ⟨k - 1, by omega⟩
    have hi : i < ls.length := by omega
    have q0 := (HL.out.cells _ rfl i hi).2.1
    have hpk : prevE ls k = some ls[i].to_ := by rw [hki, prevE_succ, List.getElem?_eq_getElem hi]; rfl
    generalize ls[i].to_ = pv at *
    simp only at q0
    have e2 : decide (0 < (k : Int)) = true := by simp; omega
    have e3 : 0 < k := by omega
    have ea : ((k : Int) - 1).toNat = i := by omega
    have pa : (0 : Int) ≤ (k : Int) - 1 := by omega
    have pb : (1 : Int) ≤ (k : Int) := by omega
    have ba : (k : Int) - 1 < (ls.length : Int) := by omega
    have ra : IntKind.i64.wrap ((k : Int) - 1) = (k : Int) - 1 := by rw [IntKind.wrap_i64]; omega
    have HKI := Lib.hid hki
    clear hki hk0
    rw [hpk] at R8 R0 RE
    by_cases a4 : fr < pv
    · have HE := RE hna a4
      have g4 : decide (fr < pv) = true := by simpa using a4
      clear R9 RE R8 R0 hna hpk
      go_enter Try.func123, Try.ntmps123
      have hS0 : (World.grownBy w ((w.alloc (.cells #[.string nm, .int .i64 sp, .int .i64 st, .slice so ss.length sc, .slice (some ⟨b, off, none⟩) ls.length lc, .slice to_ ts.length tc] 26)).alloc (.cells #[.int .i64 fr, .int .i64 tt, .string ln] 77)) none ∧ World.cell? ((w.alloc (.cells #[.string nm, .int .i64 sp, .int .i64 st, .slice so ss.length sc, .slice (some ⟨b, off, none⟩) ls.length lc, .slice to_ ts.length tc] 26)).alloc (.cells #[.int .i64 fr, .int .i64 tt, .string ln] 77)) ⟨w.heap.size, 0, none⟩ = some (.string nm) ∧ World.cell? ((w.alloc (.cells #[.string nm, .int .i64 sp, .int .i64 st, .slice so ss.length sc, .slice (some ⟨b, off, none⟩) ls.length lc, .slice to_ ts.length tc] 26)).alloc (.cells #[.int .i64 fr, .int .i64 tt, .string ln] 77)) ⟨w.heap.size, 1, none⟩ = some (.int .i64 sp) ∧ World.cell? ((w.alloc (.cells #[.string nm, .int .i64 sp, .int .i64 st, .slice so ss.length sc, .slice (some ⟨b, off, none⟩) ls.length lc, .slice to_ ts.length tc] 26)).alloc (.cells #[.int .i64 fr, .int .i64 tt, .string ln] 77)) ⟨w.heap.size, 2, none⟩ = some (.int .i64 st) ∧ World.cell? ((w.alloc (.cells #[.string nm, .int .i64 sp, .int .i64 st, .slice so ss.length sc, .slice (some ⟨b, off, none⟩) ls.length lc, .slice to_ ts.length tc] 26)).alloc (.cells #[.int .i64 fr, .int .i64 tt, .string ln] 77)) ⟨w.heap.size, 3, none⟩ = some (.slice so ss.length sc) ∧ World.cell? ((w.alloc (.cells #[.string nm, .int .i64 sp, .int .i64 st, .slice so ss.length sc, .slice (some ⟨b, off, none⟩) ls.length lc, .slice to_ ts.length tc] 26)).alloc (.cells #[.int .i64 fr, .int .i64 tt, .string ln] 77)) ⟨w.heap.size, 4, none⟩ = some (.slice (some ⟨b, off, none⟩) ls.length lc) ∧ World.cell? ((w.alloc (.cells #[.string nm, .int .i64 sp, .int .i64 st, .slice so ss.length sc, .slice (some ⟨b, off, none⟩) ls.length lc, .slice to_ ts.length tc] 26)).alloc (.cells #[.int .i64 fr, .int .i64 tt, .string ln] 77)) ⟨w.heap.size, 5, none⟩ = some (.slice to_ ts.length tc) ∧ World.cell? ((w.alloc (.cells #[.string nm, .int .i64 sp, .int .i64 st, .slice so ss.length sc, .slice (some ⟨b, off, none⟩) ls.length lc, .slice to_ ts.length tc] 26)).alloc (.cells #[.int .i64 fr, .int .i64 tt, .string ln] 77)) ⟨w.heap.size + 1, 0, none⟩ = some (.int .i64 fr) ∧ World.cell? ((w.alloc (.cells #[.string nm, .int .i64 sp, .int .i64 st, .slice so ss.length sc, .slice (some ⟨b, off, none⟩) ls.length lc, .slice to_ ts.length tc] 26)).alloc (.cells #[.int .i64 fr, .int .i64 tt, .string ln] 77)) ⟨w.heap.size + 1, 1, none⟩ = some (.int .i64 tt) ∧ World.cell? ((w.alloc (.cells #[.string nm, .int .i64 sp, .int .i64 st, .slice so ss.length sc, .slice (some ⟨b, off, none⟩) ls.length lc, .slice to_ ts.length tc] 26)).alloc (.cells #[.int .i64 fr, .int .i64 tt, .string ln] 77)) ⟨w.heap.size + 1, 2, none⟩ = some (.string ln)) := ⟨grown_trans (World.grownBy_alloc _ _ _) (World.grownBy_alloc _ _ _), by simp, by simp, by simp, by simp, by simp, by simp, by simp, by simp, by simp⟩
      have hstep : ∀ W W' : World, (World.grownBy w W none ∧ World.cell? W ⟨w.heap.size, 0, none⟩ = some (.string nm) ∧ World.cell? W ⟨w.heap.size, 1, none⟩ = some (.int .i64 sp) ∧ World.cell? W ⟨w.heap.size, 2, none⟩ = some (.int .i64 st) ∧ World.cell? W ⟨w.heap.size, 3, none⟩ = some (.slice so ss.length sc) ∧ World.cell? W ⟨w.heap.size, 4, none⟩ = some (.slice (some ⟨b, off, none⟩) ls.length lc) ∧ World.cell? W ⟨w.heap.size, 5, none⟩ = some (.slice to_ ts.length tc) ∧ World.cell? W ⟨w.heap.size + 1, 0, none⟩ = some (.int .i64 fr) ∧ World.cell? W ⟨w.heap.size + 1, 1, none⟩ = some (.int .i64 tt) ∧ World.cell? W ⟨w.heap.size + 1, 2, none⟩ = some (.string ln)) → W.grownBy W' none → (World.grownBy w W' none ∧ World.cell? W' ⟨w.heap.size, 0, none⟩ = some (.string nm) ∧ World.cell? W' ⟨w.heap.size, 1, none⟩ = some (.int .i64 sp) ∧ World.cell? W' ⟨w.heap.size, 2, none⟩ = some (.int .i64 st) ∧ World.cell? W' ⟨w.heap.size, 3, none⟩ = some (.slice so ss.length sc) ∧ World.cell? W' ⟨w.heap.size, 4, none⟩ = some (.slice (some ⟨b, off, none⟩) ls.length lc) ∧ World.cell? W' ⟨w.heap.size, 5, none⟩ = some (.slice to_ ts.length tc) ∧ World.cell? W' ⟨w.heap.size + 1, 0, none⟩ = some (.int .i64 fr) ∧ World.cell? W' ⟨w.heap.size + 1, 1, none⟩ = some (.int .i64 tt) ∧ World.cell? W' ⟨w.heap.size + 1, 2, none⟩ = some (.string ln)) := fun W W' h g => ⟨grown_trans h.1 g, grown_cell g h.2.1, grown_cell g h.2.2.1, grown_cell g h.2.2.2.1, grown_cell g h.2.2.2.2.1, grown_cell g h.2.2.2.2.2.1, grown_cell g h.2.2.2.2.2.2.1, grown_cell g h.2.2.2.2.2.2.2.1, grown_cell g h.2.2.2.2.2.2.2.2.1, grown_cell g h.2.2.2.2.2.2.2.2.2⟩
      have hSd : (World.grownBy w ((w.alloc (.cells #[.string nm, .int .i64 sp, .int .i64 st, .slice so ss.length sc, .slice (some ⟨b, off, none⟩) ls.length lc, .slice to_ ts.length tc] 26)).alloc (.cells #[.int .i64 fr, .int .i64 tt, .string ln] 77)).drew none ∧ World.cell? ((w.alloc (.cells #[.string nm, .int .i64 sp, .int .i64 st, .slice so ss.length sc, .slice (some ⟨b, off, none⟩) ls.length lc, .slice to_ ts.length tc] 26)).alloc (.cells #[.int .i64 fr, .int .i64 tt, .string ln] 77)).drew ⟨w.heap.size, 0, none⟩ = some (.string nm) ∧ World.cell? ((w.alloc (.cells #[.string nm, .int .i64 sp, .int .i64 st, .slice so ss.length sc, .slice (some ⟨b, off, none⟩) ls.length lc, .slice to_ ts.length tc] 26)).alloc (.cells #[.int .i64 fr, .int .i64 tt, .string ln] 77)).drew ⟨w.heap.size, 1, none⟩ = some (.int .i64 sp) ∧ World.cell? ((w.alloc (.cells #[.string nm, .int .i64 sp, .int .i64 st, .slice so ss.length sc, .slice (some ⟨b, off, none⟩) ls.length lc, .slice to_ ts.length tc] 26)).alloc (.cells #[.int .i64 fr, .int .i64 tt, .string ln] 77)).drew ⟨w.heap.size, 2, none⟩ = some (.int .i64 st) ∧ World.cell? ((w.alloc (.cells #[.string nm, .int .i64 sp, .int .i64 st, .slice so ss.length sc, .slice (some ⟨b, off, none⟩) ls.length lc, .slice to_ ts.length tc] 26)).alloc (.cells #[.int .i64 fr, .int .i64 tt, .string ln] 77)).drew ⟨w.heap.size, 3, none⟩ = some (.slice so ss.length sc) ∧ World.cell? ((w.alloc (.cells #[.string nm, .int .i64 sp, .int .i64 st, .slice so ss.length sc, .slice (some ⟨b, off, none⟩) ls.length lc, .slice to_ ts.length tc] 26)).alloc (.cells #[.int .i64 fr, .int .i64 tt, .string ln] 77)).drew ⟨w.heap.size, 4, none⟩ = some (.slice (some ⟨b, off, none⟩) ls.length lc) ∧ World.cell? ((w.alloc (.cells #[.string nm, .int .i64 sp, .int .i64 st, .slice so ss.length sc, .slice (some ⟨b, off, none⟩) ls.length lc, .slice to_ ts.length tc] 26)).alloc (.cells #[.int .i64 fr, .int .i64 tt, .string ln] 77)).drew ⟨w.heap.size, 5, none⟩ = some (.slice to_ ts.length tc) ∧ World.cell? ((w.alloc (.cells #[.string nm, .int .i64 sp, .int .i64 st, .slice so ss.length sc, .slice (some ⟨b, off, none⟩) ls.length lc, .slice to_ ts.length tc] 26)).alloc (.cells #[.int .i64 fr, .int .i64 tt, .string ln] 77)).drew ⟨w.heap.size + 1, 0, none⟩ = some (.int .i64 fr) ∧ World.cell? ((w.alloc (.cells #[.string nm, .int .i64 sp, .int .i64 st, .slice so ss.length sc, .slice (some ⟨b, off, none⟩) ls.length lc, .slice to_ ts.length tc] 26)).alloc (.cells #[.int .i64 fr, .int .i64 tt, .string ln] 77)).drew ⟨w.heap.size + 1, 1, none⟩ = some (.int .i64 tt) ∧ World.cell? ((w.alloc (.cells #[.string nm, .int .i64 sp, .int .i64 st, .slice so ss.length sc, .slice (some ⟨b, off, none⟩) ls.length lc, .slice to_ ts.length tc] 26)).alloc (.cells #[.int .i64 fr, .int .i64 tt, .string ln] 77)).drew ⟨w.heap.size + 1, 2, none⟩ = some (.string ln)) := hstep _ _ hS0 (grown_drewN _ _ 1)
      have hof : ∀ W : World, (World.grownBy w W none ∧ World.cell? W ⟨w.heap.size, 0, none⟩ = some (.string nm) ∧ World.cell? W ⟨w.heap.size, 1, none⟩ = some (.int .i64 sp) ∧ World.cell? W ⟨w.heap.size, 2, none⟩ = some (.int .i64 st) ∧ World.cell? W ⟨w.heap.size, 3, none⟩ = some (.slice so ss.length sc) ∧ World.cell? W ⟨w.heap.size, 4, none⟩ = some (.slice (some ⟨b, off, none⟩) ls.length lc) ∧ World.cell? W ⟨w.heap.size, 5, none⟩ = some (.slice to_ ts.length tc) ∧ World.cell? W ⟨w.heap.size + 1, 0, none⟩ = some (.int .i64 fr) ∧ World.cell? W ⟨w.heap.size + 1, 1, none⟩ = some (.int .i64 tt) ∧ World.cell? W ⟨w.heap.size + 1, 2, none⟩ = some (.string ln)) → SmpsAt W so ss := fun W h => HS.out.grown h.1
      clear hS0
      go_wp2_with fail
      go_region_held3 (fun W => (World.grownBy w W none ∧ World.cell? W ⟨w.heap.size, 0, none⟩ = some (.string nm) ∧ World.cell? W ⟨w.heap.size, 1, none⟩ = some (.int .i64 sp) ∧ World.cell? W ⟨w.heap.size, 2, none⟩ = some (.int .i64 st) ∧ World.cell? W ⟨w.heap.size, 3, none⟩ = some (.slice so ss.length sc) ∧ World.cell? W ⟨w.heap.size, 4, none⟩ = some (.slice (some ⟨b, off, none⟩) ls.length lc) ∧ World.cell? W ⟨w.heap.size, 5, none⟩ = some (.slice to_ ts.length tc) ∧ World.cell? W ⟨w.heap.size + 1, 0, none⟩ = some (.int .i64 fr) ∧ World.cell? W ⟨w.heap.size + 1, 1, none⟩ = some (.int .i64 tt) ∧ World.cell? W ⟨w.heap.size + 1, 2, none⟩ = some (.string ln))) (first | exact hSd | (refine hstep _ _ ?_ (by assumption) <;> assumption)) (first
        | (go_at_call 60; refine (rspan_any ⟨nm, sp, st, so, sc, ss, some ⟨b, off, none⟩, lc, ls, to_, tc, ts⟩ SL.out _ (hof _ (by assumption)) HSP).mono ?_; rintro x w7 ⟨rfl, hg7⟩))
      all_goals
        rename_i hfin
        clear hSd hof
        obtain ⟨G9, f0, f1, f2, f3, f4, f5, l0, l1, l2⟩ := hfin
        have q1 := grown_cell G9 q0
        clear hstep
        go_wp2_with fail
        go_quiet (fail)
        go_wp2_with fail
        go_ret
        exact ⟨ret_int HE.out.symm, grown_trans G9 (grown_drewN _ _ _)⟩
    · have g4 : decide (fr < pv) = false := by simpa using a4
      replace R8 := R8 hna a4
      replace R0 := R0 hna a4
      clear R9 RE hna hpk
      go_enter Try.func123, Try.ntmps123
      have hS0 : (World.grownBy w ((w.alloc (.cells #[.string nm, .int .i64 sp, .int .i64 st, .slice so ss.length sc, .slice (some ⟨b, off, none⟩) ls.length lc, .slice to_ ts.length tc] 26)).alloc (.cells #[.int .i64 fr, .int .i64 tt, .string ln] 77)) none ∧ World.cell? ((w.alloc (.cells #[.string nm, .int .i64 sp, .int .i64 st, .slice so ss.length sc, .slice (some ⟨b, off, none⟩) ls.length lc, .slice to_ ts.length tc] 26)).alloc (.cells #[.int .i64 fr, .int .i64 tt, .string ln] 77)) ⟨w.heap.size, 0, none⟩ = some (.string nm) ∧ World.cell? ((w.alloc (.cells #[.string nm, .int .i64 sp, .int .i64 st, .slice so ss.length sc, .slice (some ⟨b, off, none⟩) ls.length lc, .slice to_ ts.length tc] 26)).alloc (.cells #[.int .i64 fr, .int .i64 tt, .string ln] 77)) ⟨w.heap.size, 1, none⟩ = some (.int .i64 sp) ∧ World.cell? ((w.alloc (.cells #[.string nm, .int .i64 sp, .int .i64 st, .slice so ss.length sc, .slice (some ⟨b, off, none⟩) ls.length lc, .slice to_ ts.length tc] 26)).alloc (.cells #[.int .i64 fr, .int .i64 tt, .string ln] 77)) ⟨w.heap.size, 2, none⟩ = some (.int .i64 st) ∧ World.cell? ((w.alloc (.cells #[.string nm, .int .i64 sp, .int .i64 st, .slice so ss.length sc, .slice (some ⟨b, off, none⟩) ls.length lc, .slice to_ ts.length tc] 26)).alloc (.cells #[.int .i64 fr, .int .i64 tt, .string ln] 77)) ⟨w.heap.size, 3, none⟩ = some (.slice so ss.length sc) ∧ World.cell? ((w.alloc (.cells #[.string nm, .int .i64 sp, .int .i64 st, .slice so ss.length sc, .slice (some ⟨b, off, none⟩) ls.length lc, .slice to_ ts.length tc] 26)).alloc (.cells #[.int .i64 fr, .int .i64 tt, .string ln] 77)) ⟨w.heap.size, 4, none⟩ = some (.slice (some ⟨b, off, none⟩) ls.length lc) ∧ World.cell? ((w.alloc (.cells #[.string nm, .int .i64 sp, .int .i64 st, .slice so ss.length sc, .slice (some ⟨b, off, none⟩) ls.length lc, .slice to_ ts.length tc] 26)).alloc (.cells #[.int .i64 fr, .int .i64 tt, .string ln] 77)) ⟨w.heap.size, 5, none⟩ = some (.slice to_ ts.length tc) ∧ World.cell? ((w.alloc (.cells #[.string nm, .int .i64 sp, .int .i64 st, .slice so ss.length sc, .slice (some ⟨b, off, none⟩) ls.length lc, .slice to_ ts.length tc] 26)).alloc (.cells #[.int .i64 fr, .int .i64 tt, .string ln] 77)) ⟨w.heap.size + 1, 0, none⟩ = some (.int .i64 fr) ∧ World.cell? ((w.alloc (.cells #[.string nm, .int .i64 sp, .int .i64 st, .slice so ss.length sc, .slice (some ⟨b, off, none⟩) ls.length lc, .slice to_ ts.length tc] 26)).alloc (.cells #[.int .i64 fr, .int .i64 tt, .string ln] 77)) ⟨w.heap.size + 1, 1, none⟩ = some (.int .i64 tt) ∧ World.cell? ((w.alloc (.cells #[.string nm, .int .i64 sp, .int .i64 st, .slice so ss.length sc, .slice (some ⟨b, off, none⟩) ls.length lc, .slice to_ ts.length tc] 26)).alloc (.cells #[.int .i64 fr, .int .i64 tt, .string ln] 77)) ⟨w.heap.size + 1, 2, none⟩ = some (.string ln)) := ⟨grown_trans (World.grownBy_alloc _ _ _) (World.grownBy_alloc _ _ _), by simp, by simp, by simp, by simp, by simp, by simp, by simp, by simp, by simp⟩
      have hstep : ∀ W W' : World, (World.grownBy w W none ∧ World.cell? W ⟨w.heap.size, 0, none⟩ = some (.string nm) ∧ World.cell? W ⟨w.heap.size, 1, none⟩ = some (.int .i64 sp) ∧ World.cell? W ⟨w.heap.size, 2, none⟩ = some (.int .i64 st) ∧ World.cell? W ⟨w.heap.size, 3, none⟩ = some (.slice so ss.length sc) ∧ World.cell? W ⟨w.heap.size, 4, none⟩ = some (.slice (some ⟨b, off, none⟩) ls.length lc) ∧ World.cell? W ⟨w.heap.size, 5, none⟩ = some (.slice to_ ts.length tc) ∧ World.cell? W ⟨w.heap.size + 1, 0, none⟩ = some (.int .i64 fr) ∧ World.cell? W ⟨w.heap.size + 1, 1, none⟩ = some (.int .i64 tt) ∧ World.cell? W ⟨w.heap.size + 1, 2, none⟩ = some (.string ln)) → W.grownBy W' none → (World.grownBy w W' none ∧ World.cell? W' ⟨w.heap.size, 0, none⟩ = some (.string nm) ∧ World.cell? W' ⟨w.heap.size, 1, none⟩ = some (.int .i64 sp) ∧ World.cell? W' ⟨w.heap.size, 2, none⟩ = some (.int .i64 st) ∧ World.cell? W' ⟨w.heap.size, 3, none⟩ = some (.slice so ss.length sc) ∧ World.cell? W' ⟨w.heap.size, 4, none⟩ = some (.slice (some ⟨b, off, none⟩) ls.length lc) ∧ World.cell? W' ⟨w.heap.size, 5, none⟩ = some (.slice to_ ts.length tc) ∧ World.cell? W' ⟨w.heap.size + 1, 0, none⟩ = some (.int .i64 fr) ∧ World.cell? W' ⟨w.heap.size + 1, 1, none⟩ = some (.int .i64 tt) ∧ World.cell? W' ⟨w.heap.size + 1, 2, none⟩ = some (.string ln)) := fun W W' h g => ⟨grown_trans h.1 g, grown_cell g h.2.1, grown_cell g h.2.2.1, grown_cell g h.2.2.2.1, grown_cell g h.2.2.2.2.1, grown_cell g h.2.2.2.2.2.1, grown_cell g h.2.2.2.2.2.2.1, grown_cell g h.2.2.2.2.2.2.2.1, grown_cell g h.2.2.2.2.2.2.2.2.1, grown_cell g h.2.2.2.2.2.2.2.2.2⟩
      have hSd : (World.grownBy w ((w.alloc (.cells #[.string nm, .int .i64 sp, .int .i64 st, .slice so ss.length sc, .slice (some ⟨b, off, none⟩) ls.length lc, .slice to_ ts.length tc] 26)).alloc (.cells #[.int .i64 fr, .int .i64 tt, .string ln] 77)).drew none ∧ World.cell? ((w.alloc (.cells #[.string nm, .int .i64 sp, .int .i64 st, .slice so ss.length sc, .slice (some ⟨b, off, none⟩) ls.length lc, .slice to_ ts.length tc] 26)).alloc (.cells #[.int .i64 fr, .int .i64 tt, .string ln] 77)).drew ⟨w.heap.size, 0, none⟩ = some (.string nm) ∧ World.cell? ((w.alloc (.cells #[.string nm, .int .i64 sp, .int .i64 st, .slice so ss.length sc, .slice (some ⟨b, off, none⟩) ls.length lc, .slice to_ ts.length tc] 26)).alloc (.cells #[.int .i64 fr, .int .i64 tt, .string ln] 77)).drew ⟨w.heap.size, 1, none⟩ = some (.int .i64 sp) ∧ World.cell? ((w.alloc (.cells #[.string nm, .int .i64 sp, .int .i64 st, .slice so ss.length sc, .slice (some ⟨b, off, none⟩) ls.length lc, .slice to_ ts.length tc] 26)).alloc (.cells #[.int .i64 fr, .int .i64 tt, .string ln] 77)).drew ⟨w.heap.size, 2, none⟩ = some (.int .i64 st) ∧ World.cell? ((w.alloc (.cells #[.string nm, .int .i64 sp, .int .i64 st, .slice so ss.length sc, .slice (some ⟨b, off, none⟩) ls.length lc, .slice to_ ts.length tc] 26)).alloc (.cells #[.int .i64 fr, .int .i64 tt, .string ln] 77)).drew ⟨w.heap.size, 3, none⟩ = some (.slice so ss.length sc) ∧ World.cell? ((w.alloc (.cells #[.string nm, .int .i64 sp, .int .i64 st, .slice so ss.length sc, .slice (some ⟨b, off, none⟩) ls.length lc, .slice to_ ts.length tc] 26)).alloc (.cells #[.int .i64 fr, .int .i64 tt, .string ln] 77)).drew ⟨w.heap.size, 4, none⟩ = some (.slice (some ⟨b, off, none⟩) ls.length lc) ∧ World.cell? ((w.alloc (.cells #[.string nm, .int .i64 sp, .int .i64 st, .slice so ss.length sc, .slice (some ⟨b, off, none⟩) ls.length lc, .slice to_ ts.length tc] 26)).alloc (.cells #[.int .i64 fr, .int .i64 tt, .string ln] 77)).drew ⟨w.heap.size, 5, none⟩ = some (.slice to_ ts.length tc) ∧ World.cell? ((w.alloc (.cells #[.string nm, .int .i64 sp, .int .i64 st, .slice so ss.length sc, .slice (some ⟨b, off, none⟩) ls.length lc, .slice to_ ts.length tc] 26)).alloc (.cells #[.int .i64 fr, .int .i64 tt, .string ln] 77)).drew ⟨w.heap.size + 1, 0, none⟩ = some (.int .i64 fr) ∧ World.cell? ((w.alloc (.cells #[.string nm, .int .i64 sp, .int .i64 st, .slice so ss.length sc, .slice (some ⟨b, off, none⟩) ls.length lc, .slice to_ ts.length tc] 26)).alloc (.cells #[.int .i64 fr, .int .i64 tt, .string ln] 77)).drew ⟨w.heap.size + 1, 1, none⟩ = some (.int .i64 tt) ∧ World.cell? ((w.alloc (.cells #[.string nm, .int .i64 sp, .int .i64 st, .slice so ss.length sc, .slice (some ⟨b, off, none⟩) ls.length lc, .slice to_ ts.length tc] 26)).alloc (.cells #[.int .i64 fr, .int .i64 tt, .string ln] 77)).drew ⟨w.heap.size + 1, 2, none⟩ = some (.string ln)) := hstep _ _ hS0 (grown_drewN _ _ 1)
      have hof : ∀ W : World, (World.grownBy w W none ∧ World.cell? W ⟨w.heap.size, 0, none⟩ = some (.string nm) ∧ World.cell? W ⟨w.heap.size, 1, none⟩ = some (.int .i64 sp) ∧ World.cell? W ⟨w.heap.size, 2, none⟩ = some (.int .i64 st) ∧ World.cell? W ⟨w.heap.size, 3, none⟩ = some (.slice so ss.length sc) ∧ World.cell? W ⟨w.heap.size, 4, none⟩ = some (.slice (some ⟨b, off, none⟩) ls.length lc) ∧ World.cell? W ⟨w.heap.size, 5, none⟩ = some (.slice to_ ts.length tc) ∧ World.cell? W ⟨w.heap.size + 1, 0, none⟩ = some (.int .i64 fr) ∧ World.cell? W ⟨w.heap.size + 1, 1, none⟩ = some (.int .i64 tt) ∧ World.cell? W ⟨w.heap.size + 1, 2, none⟩ = some (.string ln)) → SmpsAt W so ss := fun W h => HS.out.grown h.1
      clear hS0
      go_wp2_with fail
      go_region_held3 (fun W => (World.grownBy w W none ∧ World.cell? W ⟨w.heap.size, 0, none⟩ = some (.string nm) ∧ World.cell? W ⟨w.heap.size, 1, none⟩ = some (.int .i64 sp) ∧ World.cell? W ⟨w.heap.size, 2, none⟩ = some (.int .i64 st) ∧ World.cell? W ⟨w.heap.size, 3, none⟩ = some (.slice so ss.length sc) ∧ World.cell? W ⟨w.heap.size, 4, none⟩ = some (.slice (some ⟨b, off, none⟩) ls.length lc) ∧ World.cell? W ⟨w.heap.size, 5, none⟩ = some (.slice to_ ts.length tc) ∧ World.cell? W ⟨w.heap.size + 1, 0, none⟩ = some (.int .i64 fr) ∧ World.cell? W ⟨w.heap.size + 1, 1, none⟩ = some (.int .i64 tt) ∧ World.cell? W ⟨w.heap.size + 1, 2, none⟩ = some (.string ln))) (first | exact hSd | (refine hstep _ _ ?_ (by assumption) <;> assumption)) (first
        | (go_at_call 60; refine (rspan_any ⟨nm, sp, st, so, sc, ss, some ⟨b, off, none⟩, lc, ls, to_, tc, ts⟩ SL.out _ (hof _ (by assumption)) HSP).mono ?_; rintro x w7 ⟨rfl, hg7⟩))
      all_goals
        rename_i hfin
        clear hSd hof
        obtain ⟨G9, f0, f1, f2, f3, f4, f5, l0, l1, l2⟩ := hfin
        have q1 := grown_cell G9 q0
        clear hstep
        go_wp2_with fail
        go_quiet (fail)
        clear e2 e3 ea pa pb ba ra q0 q1
        go_wp2_with fail
        go_loop [6] (fun iv => ∃ j : Nat, j ≤ ln.size ∧ iv = .int .i64 j ∧ Hid (∀ i (h : i < ln.size), i < j → lapC ln[i].toNat = true)) (fun iv => ln.size - (intOf iv).toNat)
        case atStart => exact ⟨0, Nat.zero_le _, rfl, fun i _ h => absurd h (by omega)⟩
        case round =>
          obtain ⟨j, hj, rfl, hinv⟩ := hrel
          by_cases hjl : j < ln.size
          · have hu : (ln[j].toNat : Int) ≤ 255 := by have := ln[j].toNat_lt; omega
            by_cases hc1 : (ln[j].toNat : Int) < 32
            · have HV : Hid (E = 8) := R8.out (by
                refine lapName_bad hjl ?_
                unfold lapC; rw [decide_eq_false (by omega)]; rfl)
              go_wp2_with fail
              refine (out_yes _ _ _ (.inl hc1) _).mono ?_; rintro e w1 ⟨rfl, rfl⟩
              go_wp2_with fail
              go_ret
              exact ⟨ret_int HV.out.symm, grown_trans G9 (grown_drewN _ _ _)⟩
            · by_cases hc2 : 126 < (ln[j].toNat : Int)
              · have HV : Hid (E = 8) := R8.out (by
                  refine lapName_bad hjl ?_
                  unfold lapC; rw [decide_eq_false (p := ln[j].toNat ≤ 126) (by omega)]; simp)
                go_wp2_with fail
                refine (out_yes _ _ _ (.inr hc2) _).mono ?_; rintro e w1 ⟨rfl, rfl⟩
                go_wp2_with fail
                go_ret
                exact ⟨ret_int HV.out.symm, grown_trans G9 (grown_drewN _ _ _)⟩
              · have HI : Hid (∀ i (h : i < ln.size), i < j + 1 → lapC ln[i].toNat = true) := fun i hi hlt => by
                  by_cases e : i = j
                  · subst e; unfold lapC; rw [decide_eq_true (by omega), decide_eq_true (by omega)]; rfl
                  · exact hinv.out i hi (by omega)
                go_wp2_with fail
                refine (out_no _ _ _ (by omega) (by omega) _).mono ?_; rintro e w1 ⟨rfl, rfl⟩
                go_wp2_with fail
                go_round
                case rel => exact ⟨j + 1, by omega, by go_num, HI⟩
                case measure => simp [intOf]; omega
          · by_cases hc3 : 60 < (ln.size : Int)
            · have HV : Hid (E = 8) := R8.out (lapName_long (by omega))
              go_wp2_with fail
              go_ret
              exact ⟨ret_int HV.out.symm, grown_trans G9 (grown_drewN _ _ _)⟩
            · have HV : Hid (E = 0) := R0.out (lapName_good (by omega) (fun i hi => hinv.out i hi (by omega)))
              go_wp2_with fail
              go_ret
              exact ⟨ret_int HV.out.symm, grown_trans G9 (grown_drewN _ _ _)⟩

end Go.Proofs.Ytgkhhfojioepgaa
namespace Go.Proofs.Ytgkhhfojioepgaa
open Go.RowKit
set_option linter.unusedSimpArgs false
set_option linter.unusedVariables false

theorem smpsE_samp {st : Int} {l : List Smp} {k : Nat} (h : k < l.length) : smpsE st (prevT l k) (l.drop k) = if sampF st (prevT l k) l[k] = 0 then smpsE st (prevT l (k + 1)) (l.drop (k + 1)) else sampF st (prevT l k) l[k] := by
  by_cases he : early (prevT l k) l[k].t
  · rw [smpsE_early h he, sampF, if_pos he, if_neg (by omega)]
  · by_cases hi : smpIn st l[k]
    · rw [smpsE_next h he hi, sampF, if_neg he, if_pos hi, if_pos rfl]
    · rw [smpsE_out h he hi, sampF, if_neg he, if_neg hi, if_neg (by omega)]
theorem sampF_pos {st : Int} {l : List Smp} {k : Nat} (h : k < l.length) (hp : ∀ p, prevT l k = some p → 0 ≤ p) (h0 : sampF st (prevT l k) l[k] = 0) : ∀ p, prevT l (k + 1) = some p → 0 ≤ p := by
  intro p hq
  rw [prevT_succ, List.getElem?_eq_getElem h] at hq
  have hq2 : l[k].t = p := by simpa using hq
  have hne : ¬ early (prevT l k) l[k].t := by
    intro he
    rw [sampF, if_pos he] at h0
    omega
  cases hb : prevT l k with
  | none => rw [hb] at hne; unfold early at hne; simp only [ne_eq, Decidable.not_not] at hne; omega
  | some q => rw [hb] at hne; have := hp q hb; unfold early at hne; simp only at hne; omega
theorem lapsE_lapF {sp : Int} {l : List LapV} {k : Nat} (h : k < l.length) : lapsE sp ((prevE l k).getD 0) (l.drop k) = if lapF sp (prevE l k) l[k] = 0 then lapsE sp ((prevE l (k + 1)).getD 0) (l.drop (k + 1)) else lapF sp (prevE l k) l[k] := by
  rw [lapsE_at h]
  have e : (prevE l (k + 1)).getD 0 = l[k].to_ := by rw [prevE_succ, List.getElem?_eq_getElem h]; rfl
  rw [e]
  unfold lapF
  by_cases h1 : l[k].fr < 0 ∨ l[k].to_ ≤ l[k].fr ∨ sp < l[k].to_
  · rw [if_pos h1, if_pos h1, if_neg (by omega)]
  · rw [if_neg h1, if_neg h1]
    have hs : l[k].fr < (prevE l k).getD 0 ↔ soon (prevE l k) l[k].fr := by
      cases prevE l k with
      | none => simp only [Option.getD_none, soon, iff_false]; omega
      | some q => rfl
    by_cases h2 : soon (prevE l k) l[k].fr
    · rw [if_pos (hs.2 h2), if_pos h2, if_neg (by omega)]
    · rw [if_neg (fun h => h2 (hs.1 h)), if_neg h2]
      by_cases h3 : lapNameB l[k].name = true
      · rw [if_pos h3, if_pos h3, if_pos rfl]
      · rw [if_neg h3, if_neg h3, if_neg (by omega)]

theorem rsample_any (nm : ByteArray) (sp st : Int) (so : Option Addr) (sc : Nat) (ss : List Smp) (lo : Option Addr) (lc : Nat) (ls : List LapV) (to_ : Option Addr) (tc : Nat) (ts : List ByteArray) (s0 : 0 ≤ st) (s1 : st ≤ 86399999999) (hl : (ss.length : Int) ≤ 9223372036854775807) (k : Nat) (hlt : k < ss.length) (w : World) (hs : SmpsAt w so ss) (hp : Hid (∀ p, prevT ss k = some p → 0 ≤ p)) {E : Int} (hE : Hid (sampF st (prevT ss k) ss[k] = E)) :
    Calls Try.prog 122 #[.agg #[.string nm, .int .i64 sp, .int .i64 st, .slice so ss.length sc, .slice lo ls.length lc, .slice to_ ts.length tc], .int .i64 k] w fun e w' => e = .returned (.int .i64 E) ∧ w.grownBy w' none := by
  have hne : ss ≠ [] := by intro e; rw [e] at hlt; simp at hlt
  match so, hs with
  | none, hs => exact absurd (hs.nil rfl) hne
  | some ⟨b, off, spt⟩, hs =>
    have h := hs.spot _ rfl hne
    simp only at h
    subst h
    exact rsample_some nm sp st b off sc ss lo lc ls to_ tc ts s0 s1 hl k hlt w hs hp hE
theorem rlap_any (nm : ByteArray) (sp st : Int) (so : Option Addr) (sc : Nat) (ss : List Smp) (lo : Option Addr) (lc : Nat) (ls : List LapV) (to_ : Option Addr) (tc : Nat) (ts : List ByteArray) (sl : (ss.length : Int) ≤ 9223372036854775807) (ll : (ls.length : Int) ≤ 9223372036854775807) (k : Nat) (hlt : k < ls.length) (w : World) (hs : SmpsAt w so ss) (hl : LapsAt w lo ls) {SPN : Int} (hsp : Hid (spanL ss = SPN)) {E : Int} (hE : Hid (lapF SPN (prevE ls k) ls[k] = E)) :
    Calls Try.prog 123 #[.agg #[.string nm, .int .i64 sp, .int .i64 st, .slice so ss.length sc, .slice lo ls.length lc, .slice to_ ts.length tc], .int .i64 k] w fun e w' => e = .returned (.int .i64 E) ∧ w.grownBy w' none := by
  have hne : ls ≠ [] := by intro e; rw [e] at hlt; simp at hlt
  match lo, hl with
  | none, hl => exact absurd (hl.nil rfl) hne
  | some ⟨b, off, spt⟩, hl =>
    have h := hl.spot _ rfl hne
    simp only at h
    subst h
    exact rlap_some nm sp st so sc ss b off lc ls to_ tc ts sl ll k hlt w hs hl hsp hE

set_option maxRecDepth 100000 in
set_option maxHeartbeats 6400000 in
theorem rcheck_any (a : Act) (w : World) (ha : ActAt w a) {E : Int} (hE : Hid (chkE a = E)) :
    Calls Try.prog 58 #[a.val] w fun e w' => e = .returned (.int .i64 E) ∧ w.grownBy w' none := by
  obtain ⟨nm, sp, st, so, sc, ss, lo, lc, ls, to_, tc, ts⟩ := a
  obtain ⟨ns, sl, ll, tl, hs, hl, ht⟩ := ha
  have CN := @chkE_name ⟨nm, sp, st, so, sc, ss, lo, lc, ls, to_, tc, ts⟩
  have CS := @chkE_sport ⟨nm, sp, st, so, sc, ss, lo, lc, ls, to_, tc, ts⟩
  have CT := @chkE_start ⟨nm, sp, st, so, sc, ss, lo, lc, ls, to_, tc, ts⟩
  have CZ := @chkE_size ⟨nm, sp, st, so, sc, ss, lo, lc, ls, to_, tc, ts⟩
  have CR := @chkE_rest ⟨nm, sp, st, so, sc, ss, lo, lc, ls, to_, tc, ts⟩
  rw [hE.out] at CN CS CT CZ CR
  simp only [Act.val] at *
  have NS := Lib.hid ns; have SL := Lib.hid sl; have LL := Lib.hid ll; have HS := Lib.hid hs; have HL := Lib.hid hl; have HT := Lib.hid ht
  clear ns hs hl ht hE
  cases hn : nameB nm with
  | false =>
    have HV : Hid (E = 8) := CN hn
    have HN := Lib.hid hn
    clear CN CS CT CZ CR hn
    go_enter Try.func58, Try.ntmps58
    go_wp2_with fail
    refine (rname_is nm NS.out _ HN).mono ?_; rintro e w1 ⟨rfl, rfl⟩
    go_wp2_with fail
    go_ret
    exact ⟨ret_int HV.out.symm, World.grownBy_alloc _ _ _⟩
  | true =>
    have HN := Lib.hid hn
    by_cases a1 : sp < 1
    · have HV : Hid (E = 7) := CS hn (.inl a1)
      clear CN CS CT CZ CR hn
      go_enter Try.func58, Try.ntmps58
      go_wp2_with fail
      refine (rname_is nm NS.out _ HN).mono ?_; rintro e w1 ⟨rfl, rfl⟩
      go_wp2_with fail
      refine (out_yes _ _ _ (.inl a1) _).mono ?_; rintro e w1 ⟨rfl, rfl⟩
      go_wp2_with fail
      go_ret
      exact ⟨ret_int HV.out.symm, World.grownBy_alloc _ _ _⟩
    by_cases a2 : 5 < sp
    · have HV : Hid (E = 7) := CS hn (.inr a2)
      clear CN CS CT CZ CR hn
      go_enter Try.func58, Try.ntmps58
      go_wp2_with fail
      refine (rname_is nm NS.out _ HN).mono ?_; rintro e w1 ⟨rfl, rfl⟩
      go_wp2_with fail
      refine (out_yes _ _ _ (.inr a2) _).mono ?_; rintro e w1 ⟨rfl, rfl⟩
      go_wp2_with fail
      go_ret
      exact ⟨ret_int HV.out.symm, World.grownBy_alloc _ _ _⟩
    by_cases a3 : st < 0
    · have HV : Hid (E = 9) := CT hn ⟨by omega, by omega⟩ (.inl a3)
      clear CN CS CT CZ CR hn
      go_enter Try.func58, Try.ntmps58
      go_wp2_with fail
      refine (rname_is nm NS.out _ HN).mono ?_; rintro e w1 ⟨rfl, rfl⟩
      go_wp2_with fail
      refine (out_no _ _ _ (by omega) (by omega) _).mono ?_; rintro e w1 ⟨rfl, rfl⟩
      go_wp2_with fail
      refine (out_yes _ _ _ (.inl a3) _).mono ?_; rintro e w1 ⟨rfl, rfl⟩
      go_wp2_with fail
      go_ret
      exact ⟨ret_int HV.out.symm, World.grownBy_alloc _ _ _⟩
    by_cases a4 : 86399999999 < st
    · have HV : Hid (E = 9) := CT hn ⟨by omega, by omega⟩ (.inr a4)
      clear CN CS CT CZ CR hn
      go_enter Try.func58, Try.ntmps58
      go_wp2_with fail
      refine (rname_is nm NS.out _ HN).mono ?_; rintro e w1 ⟨rfl, rfl⟩
      go_wp2_with fail
      refine (out_no _ _ _ (by omega) (by omega) _).mono ?_; rintro e w1 ⟨rfl, rfl⟩
      go_wp2_with fail
      refine (out_yes _ _ _ (.inr a4) _).mono ?_; rintro e w1 ⟨rfl, rfl⟩
      go_wp2_with fail
      go_ret
      exact ⟨ret_int HV.out.symm, World.grownBy_alloc _ _ _⟩
    by_cases a5 : 20000 < (ss.length : Int)
    · have HV : Hid (E = 3) := CZ hn ⟨by omega, by omega⟩ ⟨by omega, by omega⟩ (.inl a5)
      clear CN CS CT CZ CR hn
      go_enter Try.func58, Try.ntmps58
      go_wp2_with fail
      refine (rname_is nm NS.out _ HN).mono ?_; rintro e w1 ⟨rfl, rfl⟩
      go_wp2_with fail
      refine (out_no _ _ _ (by omega) (by omega) _).mono ?_; rintro e w1 ⟨rfl, rfl⟩
      go_wp2_with fail
      refine (out_no _ _ _ (by omega) (by omega) _).mono ?_; rintro e w1 ⟨rfl, rfl⟩
      go_wp2_with fail
      go_ret
      exact ⟨ret_int HV.out.symm, World.grownBy_alloc _ _ _⟩
    by_cases a6 : 200 < (ls.length : Int)
    · have HV : Hid (E = 3) := CZ hn ⟨by omega, by omega⟩ ⟨by omega, by omega⟩ (.inr (.inl a6))
      clear CN CS CT CZ CR hn
      go_enter Try.func58, Try.ntmps58
      go_wp2_with fail
      refine (rname_is nm NS.out _ HN).mono ?_; rintro e w1 ⟨rfl, rfl⟩
      go_wp2_with fail
      refine (out_no _ _ _ (by omega) (by omega) _).mono ?_; rintro e w1 ⟨rfl, rfl⟩
      go_wp2_with fail
      refine (out_no _ _ _ (by omega) (by omega) _).mono ?_; rintro e w1 ⟨rfl, rfl⟩
      go_wp2_with fail
      go_ret
      exact ⟨ret_int HV.out.symm, World.grownBy_alloc _ _ _⟩
    by_cases a7 : 20 < (ts.length : Int)
    · have HV : Hid (E = 3) := CZ hn ⟨by omega, by omega⟩ ⟨by omega, by omega⟩ (.inr (.inr a7))
      clear CN CS CT CZ CR hn
      go_enter Try.func58, Try.ntmps58
      go_wp2_with fail
      refine (rname_is nm NS.out _ HN).mono ?_; rintro e w1 ⟨rfl, rfl⟩
      go_wp2_with fail
      refine (out_no _ _ _ (by omega) (by omega) _).mono ?_; rintro e w1 ⟨rfl, rfl⟩
      go_wp2_with fail
      refine (out_no _ _ _ (by omega) (by omega) _).mono ?_; rintro e w1 ⟨rfl, rfl⟩
      go_wp2_with fail
      go_ret
      exact ⟨ret_int HV.out.symm, World.grownBy_alloc _ _ _⟩
    have hr := CR hn ⟨by omega, by omega⟩ ⟨by omega, by omega⟩ ⟨by omega, by omega, by omega⟩
    clear CN CS CT CZ CR hn
    have s0 : 0 ≤ st := by omega
    have s1 : st ≤ 86399999999 := by omega
    have sl2 : (ss.length : Int) ≤ 20000 := by omega
    have ll2 : (ls.length : Int) ≤ 200 := by omega
    have tl2 : (ts.length : Int) ≤ 20 := by omega
    obtain ⟨SPN, hsp⟩ : ∃ x, spanL ss = x := ⟨_, rfl⟩
    rw [hsp] at hr
    have HSP := Lib.hid hsp
    have HR := Lib.hid hr
    have hstep : ∀ W W' : World, (World.grownBy w W none ∧ World.cell? W ⟨w.heap.size, 0, none⟩ = some (.string nm) ∧ World.cell? W ⟨w.heap.size, 1, none⟩ = some (.int .i64 sp) ∧ World.cell? W ⟨w.heap.size, 2, none⟩ = some (.int .i64 st) ∧ World.cell? W ⟨w.heap.size, 3, none⟩ = some (.slice so ss.length sc) ∧ World.cell? W ⟨w.heap.size, 4, none⟩ = some (.slice lo ls.length lc) ∧ World.cell? W ⟨w.heap.size, 5, none⟩ = some (.slice to_ ts.length tc)) → W.grownBy W' none → (World.grownBy w W' none ∧ World.cell? W' ⟨w.heap.size, 0, none⟩ = some (.string nm) ∧ World.cell? W' ⟨w.heap.size, 1, none⟩ = some (.int .i64 sp) ∧ World.cell? W' ⟨w.heap.size, 2, none⟩ = some (.int .i64 st) ∧ World.cell? W' ⟨w.heap.size, 3, none⟩ = some (.slice so ss.length sc) ∧ World.cell? W' ⟨w.heap.size, 4, none⟩ = some (.slice lo ls.length lc) ∧ World.cell? W' ⟨w.heap.size, 5, none⟩ = some (.slice to_ ts.length tc)) := fun W W' h g => ⟨grown_trans h.1 g, grown_cell g h.2.1, grown_cell g h.2.2.1, grown_cell g h.2.2.2.1, grown_cell g h.2.2.2.2.1, grown_cell g h.2.2.2.2.2.1, grown_cell g h.2.2.2.2.2.2⟩
    have HSTEP := Lib.hid hstep
    clear hr hsp hstep
    go_enter Try.func58, Try.ntmps58
    go_wp2_with fail
    refine (rname_is nm NS.out _ HN).mono ?_; rintro e w1 ⟨rfl, rfl⟩
    go_wp2_with fail
    refine (out_no _ _ _ (by omega) (by omega) _).mono ?_; rintro e w1 ⟨rfl, rfl⟩
    go_wp2_with fail
    refine (out_no _ _ _ (by omega) (by omega) _).mono ?_; rintro e w1 ⟨rfl, rfl⟩
    go_wp2_with fail
    go_loopw [42] (fun iv wr => ∃ k : Nat, k ≤ ss.length ∧ iv = .int .i64 k ∧ (World.grownBy w wr none ∧ World.cell? wr ⟨w.heap.size, 0, none⟩ = some (.string nm) ∧ World.cell? wr ⟨w.heap.size, 1, none⟩ = some (.int .i64 sp) ∧ World.cell? wr ⟨w.heap.size, 2, none⟩ = some (.int .i64 st) ∧ World.cell? wr ⟨w.heap.size, 3, none⟩ = some (.slice so ss.length sc) ∧ World.cell? wr ⟨w.heap.size, 4, none⟩ = some (.slice lo ls.length lc) ∧ World.cell? wr ⟨w.heap.size, 5, none⟩ = some (.slice to_ ts.length tc)) ∧ Hid (smpsE st none ss = smpsE st (prevT ss k) (ss.drop k)) ∧ Hid (∀ p, prevT ss k = some p → 0 ≤ p))
      (fun iv _ => ss.length - (intOf iv).toNat)
    case atStart => exact ⟨0, Nat.zero_le _, rfl, ⟨World.grownBy_alloc _ _ _, by simp, by simp, by simp, by simp, by simp, by simp⟩, by show _ = _; rfl, fun p h => by simp [prevT] at h⟩
    case round =>
      obtain ⟨k, hk, rfl, hS, hw, hp⟩ := hrel
      have HSW := Lib.hid hS
      obtain ⟨G, f0, f1, f2, f3, f4, f5⟩ := hS
      by_cases hlt : k < ss.length
      · obtain ⟨ek, hek⟩ : ∃ e, sampF st (prevT ss k) ss[k] = e := ⟨_, rfl⟩
        have hstep := smpsE_samp (st := st) hlt
        rw [hek] at hstep
        have HEK := Lib.hid hek
        have HSS := Lib.hid (HS.out.grown G)
        by_cases hz : ek = 0
        · rw [if_pos hz] at hstep
          have HW : Hid (smpsE st none ss = smpsE st (prevT ss (k + 1)) (ss.drop (k + 1))) := Lib.hid (hw.out.trans hstep)
          have HP := Lib.hid (sampF_pos hlt hp.out (hek.trans hz))
          subst hz
          clear hstep hek hw
          go_wp2_with fail
          refine (rsample_any nm sp st so sc ss lo lc ls to_ tc ts s0 s1 SL.out k hlt _ HSS.out hp HEK).mono ?_; rintro e w1 ⟨rfl, hg1⟩
          have HN1 := HSTEP.out _ _ HSW.out hg1
          clear f0 f1 f2 f3 f4 f5 G hg1
          go_wp2_with fail
          go_roundw
          case rel => exact ⟨k + 1, by omega, by go_num, HN1, HW, HP⟩
          case measure => simp [intOf]; omega
        · rw [if_neg hz] at hstep
          have HV : Hid (E = ek) := by
            show _ = _
            have h1 := hw.out.trans hstep
            rw [HR.out, if_neg (by rw [h1]; exact hz)]; exact h1
          have hne : (ek != 0) = true := by simpa using hz
          clear hstep hek hw hz
          go_wp2_with fail
          refine (rsample_any nm sp st so sc ss lo lc ls to_ tc ts s0 s1 SL.out k hlt _ HSS.out hp HEK).mono ?_; rintro e w1 ⟨rfl, hg1⟩
          have G1 := grown_trans G hg1
          clear hg1
          go_wp2_with fail
          go_ret
          exact ⟨ret_int HV.out.symm, G1⟩
      · have h0 : smpsE st none ss = 0 := hw.out.trans (smpsE_end (by omega))
        have HR2 : Hid (E = if lapsE SPN 0 ls = 0 then tagsE none ts else lapsE SPN 0 ls) := by show _ = _; rw [HR.out, if_pos h0]
        clear h0 hw hp
        obtain ⟨wo, rfl⟩ : ∃ wo : World, wo = wr := ⟨_, rfl⟩
        have HSO := HSW; clear HSW
        go_wp2_with fail
        clear f0 f1 f2 f3 f4 f5 G
        go_loopw [55] (fun iv wr => ∃ k : Nat, k ≤ ls.length ∧ iv = .int .i64 k ∧ (World.grownBy w wr none ∧ World.cell? wr ⟨w.heap.size, 0, none⟩ = some (.string nm) ∧ World.cell? wr ⟨w.heap.size, 1, none⟩ = some (.int .i64 sp) ∧ World.cell? wr ⟨w.heap.size, 2, none⟩ = some (.int .i64 st) ∧ World.cell? wr ⟨w.heap.size, 3, none⟩ = some (.slice so ss.length sc) ∧ World.cell? wr ⟨w.heap.size, 4, none⟩ = some (.slice lo ls.length lc) ∧ World.cell? wr ⟨w.heap.size, 5, none⟩ = some (.slice to_ ts.length tc)) ∧ Hid (lapsE SPN 0 ls = lapsE SPN ((prevE ls k).getD 0) (ls.drop k)))
          (fun iv _ => ls.length - (intOf iv).toNat)
        case atStart => exact ⟨0, Nat.zero_le _, rfl, HSO.out, by show _ = _; rfl⟩
        case round =>
          obtain ⟨k2, hk2, rfl, hS, hw⟩ := hrel
          have HSW := Lib.hid hS
          obtain ⟨G, f0, f1, f2, f3, f4, f5⟩ := hS
          by_cases hlt2 : k2 < ls.length
          · obtain ⟨ek, hek⟩ : ∃ e, lapF SPN (prevE ls k2) ls[k2] = e := ⟨_, rfl⟩
            have hstep := lapsE_lapF (sp := SPN) hlt2
            rw [hek] at hstep
            have HEK := Lib.hid hek
            have HSS := Lib.hid (HS.out.grown G)
            have HLL := Lib.hid (HL.out.grown G)
            by_cases hz : ek = 0
            · rw [if_pos hz] at hstep
              have HW : Hid (lapsE SPN 0 ls = lapsE SPN ((prevE ls (k2 + 1)).getD 0) (ls.drop (k2 + 1))) := Lib.hid (hw.out.trans hstep)
              subst hz
              clear hstep hek hw
              go_wp2_with fail
              refine (rlap_any nm sp st so sc ss lo lc ls to_ tc ts SL.out LL.out k2 hlt2 _ HSS.out HLL.out HSP HEK).mono ?_; rintro e w1 ⟨rfl, hg1⟩
              have HN1 := HSTEP.out _ _ HSW.out hg1
              clear f0 f1 f2 f3 f4 f5 G hg1
              go_wp2_with fail
              go_roundw
              case rel => exact ⟨k2 + 1, by omega, by go_num, HN1, HW⟩
              case measure => simp [intOf]; omega
            · rw [if_neg hz] at hstep
              have HV : Hid (E = ek) := by
                show _ = _
                have h1 := hw.out.trans hstep
                rw [HR2.out, if_neg (by rw [h1]; exact hz)]; exact h1
              have hne : (ek != 0) = true := by simpa using hz
              clear hstep hek hw hz
              go_wp2_with fail
              refine (rlap_any nm sp st so sc ss lo lc ls to_ tc ts SL.out LL.out k2 hlt2 _ HSS.out HLL.out HSP HEK).mono ?_; rintro e w1 ⟨rfl, hg1⟩
              have G1 := grown_trans G hg1
              clear hg1
              go_wp2_with fail
              go_ret
              exact ⟨ret_int HV.out.symm, G1⟩
          · have h0 : lapsE SPN 0 ls = 0 := hw.out.trans (lapsE_end (by omega))
            have HR3 : Hid (tagsE none ts = E) := by show _ = _; rw [HR2.out, if_pos h0]
            clear h0 hw
            have HTT := Lib.hid (HT.out.grown G)
            obtain ⟨wq, rfl⟩ : ∃ wq : World, wq = wr := ⟨_, rfl⟩
            go_wp2_with fail
            go_loop [68] (fun iv => ∃ k : Nat, k ≤ ts.length ∧ iv = .int .i64 k ∧ Hid (tagsE (prevG ts k) (ts.drop k) = E))
              (fun iv => ts.length - (intOf iv).toNat)
            case atStart => exact ⟨0, Nat.zero_le _, rfl, HR3⟩
            case round =>
              obtain ⟨k3, hk3, rfl, hw⟩ := hrel
              by_cases hlt3 : k3 < ts.length
              · have hne3 : ts ≠ [] := by intro e; rw [e] at hlt3; simp at hlt3
                obtain ⟨b, off, hto⟩ : ∃ b off, to_ = some ⟨b, off, none⟩ := by
                  cases hto : to_ with
                  | none => exact absurd (HTT.out.nil hto) hne3
                  | some q => obtain ⟨b, off, s3⟩ := q; have := HTT.out.spot _ hto hne3; simp only at this; subst this; exact ⟨b, off, rfl⟩
                have c0 := HTT.out.cells _ hto k3 hlt3
                simp only at c0
                have hsz := HTT.out.sizes k3 hlt3
                have HW : Hid (_ = E) := Lib.hid ((tagsE_at (e := prevG ts k3) hlt3).symm.trans hw.out)
                obtain ⟨x, hx⟩ : ∃ x, ts[k3] = x := ⟨_, rfl⟩
                rw [hx] at c0 hsz HW
                have HZ := Lib.hid hsz; have HTO := Lib.hid hto
                rw [hto] at f5
                clear hsz hw hx
                by_cases a5 : nameB x = true
                · have H5 := Lib.hid a5
                  by_cases hk0 : k3 = 0
                  · have HE : Hid (tagsE (prevG ts (k3 + 1)) (ts.drop (k3 + 1)) = E) := by
                      show _ = _; rw [← HW.out, if_pos a5, hk0]; rfl
                    have e2 : decide (0 < (k3 : Int)) = false := by simp; omega
                    have e3 : decide (0 < k3) = false := by simp; omega
                    have HK := Lib.hid hk0
                    subst hto
                    clear HW a5 hk0
                    go_wp2_with (go_at_call 120; refine (rname_is x HZ.out _ H5).mono ?_; rintro e w1 ⟨rfl, rfl⟩)
                    go_round
                    case rel => exact ⟨k3 + 1, by omega, by go_num, HE⟩
                    case measure => simp [intOf]; omega
                  · obtain ⟨i, hki⟩ : ∃ i, k3 = i + 1 := ⟨k3 - 1, by omega⟩
                    have hi : i < ts.length := by omega
                    have c1 := HTT.out.cells _ hto i hi
                    simp only at c1
                    have hpv : prevG ts k3 = some ts[i] := by rw [hki, prevG_succ, List.getElem?_eq_getElem hi]
                    obtain ⟨y, hy⟩ : ∃ y, ts[i] = y := ⟨_, rfl⟩
                    rw [hy] at c1 hpv
                    have hs1 : soonT (prevG ts k3) x = leT x y := by rw [hpv]; rfl
                    have e2 : decide (0 < (k3 : Int)) = true := by simp; omega
                    have e3 : 0 < k3 := by omega
                    have ea : ((k3 : Int) - 1).toNat = i := by omega
                    have pa : (0 : Int) ≤ (k3 : Int) - 1 := by omega
                    have pb : (1 : Int) ≤ (k3 : Int) := by omega
                    have ba : (k3 : Int) - 1 < (ts.length : Int) := by omega
                    have HKI := Lib.hid hki
                    subst hto
                    clear hki hk0 hy
                    by_cases a6 : leT x y = true
                    · have HE : Hid (E = 10) := by show _ = _; rw [← HW.out, if_pos a5, if_pos (hs1.trans a6)]
                      have f1 : (Op.bytesLess x.toList y.toList || x.toList == y.toList) = true := a6
                      clear HW a5 hpv hs1 a6
                      go_wp2_with (go_at_call 120; refine (rname_is x HZ.out _ H5).mono ?_; rintro e w1 ⟨rfl, rfl⟩)
                      go_ret
                      exact ⟨ret_int HE.out.symm, G⟩
                    · have HE : Hid (tagsE (prevG ts (k3 + 1)) (ts.drop (k3 + 1)) = E) := by
                        show _ = _; rw [← HW.out, if_pos a5, if_neg (by rw [hs1]; exact a6)]
                      have f1 : (Op.bytesLess x.toList y.toList || x.toList == y.toList) = false := by unfold leT at a6; simpa using a6
                      clear HW a5 hpv hs1 a6
                      go_wp2_with (go_at_call 120; refine (rname_is x HZ.out _ H5).mono ?_; rintro e w1 ⟨rfl, rfl⟩)
                      go_round
                      case rel => exact ⟨k3 + 1, by omega, by go_num, HE⟩
                      case measure => simp [intOf]; omega
                · have HE : Hid (E = 8) := by show _ = _; rw [← HW.out, if_neg a5]
                  have H5 : Hid (nameB x = false) := by show _ = _; simpa using a5
                  subst hto
                  clear HW a5
                  go_wp2_with (go_at_call 120; refine (rname_is x HZ.out _ H5).mono ?_; rintro e w1 ⟨rfl, rfl⟩)
                  go_ret
                  exact ⟨ret_int HE.out.symm, G⟩
              · have HV : Hid (E = 0) := by show _ = _; rw [← hw.out]; exact tagsE_end (by omega)
                go_wp2_with fail
                go_ret
                exact ⟨ret_int HV.out.symm, G⟩

end Go.Proofs.Ytgkhhfojioepgaa
namespace Go.Proofs.Ytgkhhfojioepgaa
open Go.RowKit
set_option linter.unusedSimpArgs false
set_option linter.unusedVariables false

/-- The cells of a list of numbers. -/
def IntsC (w : World) (ao : Option Addr) (n : Nat) (F : Nat → Int) : Prop := ∀ j, j < n → ∃ g, ao = some ⟨g, 0, none⟩ ∧ w.cell? ⟨g, j, none⟩ = some (.int .i64 (F j))
theorem IntsC.grown {w w' : World} {ao : Option Addr} {n : Nat} {F : Nat → Int} (h : IntsC w ao n F) (g : w.grownBy w' none) : IntsC w' ao n F := fun j hj => by
  obtain ⟨b, hb, hc⟩ := h j hj
  exact ⟨b, hb, grown_cell g hc⟩
def waysE (a : Act) : Nat × Int := if chkE a = 0 then (a.ss.length, 0) else (0, chkE a)

set_option maxHeartbeats 800000 in
theorem ways_any (a : Act) (w : World) (ha : ActAt w a) {n : Nat} {E : Int} (hE : Hid (waysE a = (n, E))) :
    Calls Try.prog 47 #[a.val] w fun x w' => (∃ ao cap, x = .returned (.tuple #[.slice ao n cap, .int .i64 E]) ∧ IntsC w' ao n (wayN a.ss)) ∧ w.grownBy w' none := by
  obtain ⟨ce, hce⟩ : ∃ e, chkE a = e := ⟨_, rfl⟩
  have hw := hE.out
  unfold waysE at hw
  have HCE := Lib.hid hce
  have HA := Lib.hid ha
  have hok : ce = 0 → ActOk a := fun h => chk_ok (hce.trans h)
  rw [hce] at hw
  obtain ⟨nm, sp, st, so, sc, ss, lo, lc, ls, to_, tc, ts⟩ := a
  simp only [Act.val] at *
  clear hce hE ha
  by_cases h0 : ce = 0
  · rw [if_pos h0] at hw
    simp only [Prod.mk.injEq] at hw
    obtain ⟨rfl, rfl⟩ := hw
    have hk := hok h0
    subst h0
    have HL := Lib.hid hk.sl; have HP := Lib.hid hk.plane
    clear hok hk
    go_enter Try.func47, Try.ntmps47
    go_wp2_with fail
    refine (check_any ⟨nm, sp, st, so, sc, ss, lo, lc, ls, to_, tc, ts⟩ _ (HA.out.grown (World.grownBy_alloc _ _ _)) HCE).mono ?_; rintro e w1 ⟨rfl, hg1⟩
    have G1 := grown_trans (World.grownBy_alloc w (.cells #[.string nm, .int .i64 sp, .int .i64 st, .slice so ss.length sc, .slice lo ls.length lc, .slice to_ ts.length tc] 26) none) hg1
    have b3 : w1.cell? ⟨w.heap.size, 3, none⟩ = some (.slice so ss.length sc) := grown_cell hg1 (by simp)
    clear hg1
    go_wp2_with fail
    refine (waysOf_any so sc ss HL.out w1 (HA.out.grown G1).hs ((HA.out.grown G1).hs).block HP.out).mono ?_; rintro e w2 ⟨⟨rfl, hR⟩, hg2⟩
    have G2 := grown_trans G1 (grown_below hg2)
    have HR := Lib.hid hR
    clear hR hg2 G1
    go_wp2_with fail
    go_ret2
    exact ⟨⟨_, _, rfl, fun j hj => ⟨_, rfl, HR.out.cell hj⟩⟩, G2⟩
  · rw [if_neg h0] at hw
    simp only [Prod.mk.injEq] at hw
    obtain ⟨rfl, rfl⟩ := hw
    have hne : (ce != 0) = true := by simpa using h0
    clear hok h0
    go_enter Try.func47, Try.ntmps47
    go_wp2_with fail
    refine (check_any ⟨nm, sp, st, so, sc, ss, lo, lc, ls, to_, tc, ts⟩ _ (HA.out.grown (World.grownBy_alloc _ _ _)) HCE).mono ?_; rintro e w1 ⟨rfl, hg1⟩
    have G1 := grown_trans (World.grownBy_alloc w (.cells #[.string nm, .int .i64 sp, .int .i64 st, .slice so ss.length sc, .slice lo ls.length lc, .slice to_ ts.length tc] 26) none) hg1
    clear hg1
    go_wp2_with fail
    go_ret2
    exact ⟨⟨_, _, rfl, fun j hj => absurd hj (by omega)⟩, G1⟩

/-- The list of the reference's ways so far. -/
noncomputable def wayVs (ss : List Smp) (k : Nat) : List Value := (List.range k).map fun j => Value.int .i64 (wayN ss j)
theorem wayVs_succ (ss : List Smp) (k : Nat) : wayVs ss (k + 1) = wayVs ss k ++ [.int .i64 (wayN ss k)] := by simp [wayVs, List.range_succ]
theorem wayN_bd {ss : List Smp} (hp : ∀ x ∈ ss, inPlane x) : ∀ j, 0 ≤ wayN ss j ∧ wayN ss j ≤ j * 300000000
  | 0 => by simp [wayN]
  | k + 1 => by
    have := wayN_bd hp k
    have := stepW_bd (smpD_plane hp k) (smpD_plane hp (k + 1))
    unfold wayN; omega
noncomputable def sumTo (ss : List Smp) : Nat → Int
  | 0 => 0
  | k + 1 => wayN ss k
end Go.Proofs.Ytgkhhfojioepgaa
