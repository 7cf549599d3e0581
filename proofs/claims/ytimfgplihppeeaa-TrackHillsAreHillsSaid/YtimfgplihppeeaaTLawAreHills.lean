/- What Hills returns are hills, apart from each other, and each two samples between which one goes up so lie in one of them: the walk. -/
import Derived.Test.YtimfgplihppeeaaTTold
import Derived.Test.YtimfgplihppeeaaTIsHill
namespace Go.Proofs.Ytimfgplihppeeaa
open Go.RowKit

theorem hillsOk_at {Z W : Nat → Int} {n : Nat} {least dip : Int} : ∀ (L : List HillV) (lo : Nat), HillsOk Z W n least dip lo L → ∀ k (hk : k < L.length), ∃ a b : Nat, lo ≤ a ∧ a ≤ b ∧ b < n ∧ L[k] = hillV Z W a b ∧ IsHill Z least dip a b ∧ ∀ (_ : 0 < k), (L[k - 1]'(by omega)).to_ < (a : Int)
  | [], _, _, k, hk => absurd hk (by simp)
  | h :: r, lo, ⟨a, b, h1, h2, h3, h4, h5, h6⟩, 0, _ => ⟨a, b, h1, h2, h3, h4, h5, fun h => absurd h (by omega)⟩
  | h :: r, lo, ⟨a, b, h1, h2, h3, h4, h5, h6⟩, k + 1, hk => by
    have hk' : k < r.length := by simpa using hk
    obtain ⟨a', b', g1, g2, g3, g4, g5, g6⟩ := hillsOk_at r (b + 1) h6 k hk'
    refine ⟨a', b', by omega, g2, g3, by simpa using g4, g5, fun _ => ?_⟩
    cases k with
    | zero =>
      simp only [Nat.zero_add, Nat.sub_self, List.getElem_cons_zero]
      rw [h4]; show (b : Int) < a'; omega
    | succ k =>
      have := g6 (by omega)
      simpa using this

set_option maxRecDepth 100000 in
set_option maxHeartbeats 3200000 in
theorem arehills_law (a : Act) (least dip x y : Int) (w : World) (ha : ActAt w a) (hc : a.ss.length ≤ a.sc) :
    Calls Try.prog 4 #[a.val, .int .i64 least, .int .i64 dip, .int .i64 x, .int .i64 y] w fun e w' => e = .returned (.bool true) ∧ w.grownBy w' none := by
  rcases hwe : hillsOut a least dip with ⟨L, E⟩
  have hn := hills_len hwe
  have HWE := Lib.hid hwe; have HA := Lib.hid ha; have HN := Lib.hid hn
  have hfacts : E = 0 → chkE a = 0 ∧ (1 ≤ least ∧ least ≤ 200000) ∧ (0 ≤ dip ∧ dip ≤ 200000) ∧ hillsL a.ss least dip = L := fun h => by
    subst h
    unfold hillsOut at hwe
    split at hwe
    · rename_i h0
      split at hwe
      · rename_i h1
        simp only [Prod.mk.injEq] at hwe
        exact ⟨h0, h1.1, h1.2, hwe.1⟩
      · simp only [Prod.mk.injEq] at hwe; omega
    · rename_i h0
      simp only [Prod.mk.injEq] at hwe; exact absurd hwe.2 h0
  have HFA := Lib.hid hfacts
  clear hwe ha hc hn hfacts
  obtain ⟨nm, sp, st, so, sc, ss, lo, lc, ls, to_, tc, ts⟩ := a
  simp only [Act.val]
  simp only at HFA
  go_enter Try.func4, Try.ntmps4
  have GB : Hid (w.grownBy (((w.alloc (.cells #[.string nm, .int .i64 sp, .int .i64 st, .slice so ss.length sc, .slice lo ls.length lc, .slice to_ ts.length tc] 26)).alloc (.cells #[.int .i64 x] 3)).alloc (.cells #[.int .i64 y] 3)) none) := grown_trans (grown_trans (World.grownBy_alloc _ _ _) (World.grownBy_alloc _ _ _)) (World.grownBy_alloc _ _ _)
  go_wp2_with fail
  refine (Hills_any ⟨nm, sp, st, so, sc, ss, lo, lc, ls, to_, tc, ts⟩ least dip _ (HA.out.grown GB.out) HWE).mono ?_; rintro e w1 ⟨⟨v1, rfl, ho1⟩, hg1⟩
  have HO1 := Lib.hid ho1
  have a3 : w1.cell? ⟨w.heap.size, 3, none⟩ = some (.slice so ss.length sc) := grown_cell hg1 (by go_simp)
  have c8 : w1.cell? ⟨w.heap.size + 1, 0, none⟩ = some (.int .i64 x) := grown_cell hg1 (by go_simp)
  have c9 : w1.cell? ⟨w.heap.size + 1 + 1, 0, none⟩ = some (.int .i64 y) := grown_cell hg1 (by go_simp)
  have K := Lib.hid (grown_trans GB.out hg1)
  clear ho1 hg1 GB
  by_cases hE : E = 0
  · subst hE
    obtain ⟨f1, ⟨l0, l1⟩, ⟨d0, d1⟩, f4⟩ := HFA.out rfl
    have hok := chk_ok f1
    have hl := hok.sl
    simp only at hl
    have HZ := Lib.hid (z_bd hok)
    simp only at HZ
    have HS1 := Lib.hid (HA.out.grown K.out).hs
    simp only at HS1
    have hoks : HillsOk (zOf ss) (wayN ss) ss.length least dip 0 L := by rw [← f4]; exact hillsP_ok d0 _ _
    have HOK := Lib.hid hoks
    have hall : ∀ a b : Nat, a ≤ b → b < ss.length → IsHill (zOf ss) least dip a b → ∃ h ∈ L, h.fr ≤ a ∧ (b : Int) ≤ h.to_ := fun a b h1 h2 h3 => by
      obtain ⟨h, hm, hh⟩ := hillsR_all (W := wayN ss) d0 h1 h2 h3 (ss.length - 0) 0 (Nat.le_refl _) (Nat.zero_le _)
      rw [← hills_same d0 _ _ (Nat.le_refl _)] at hm
      rw [← f4]
      exact ⟨h, hm, hh⟩
    have HALL := Lib.hid hall
    obtain ⟨ao, cap, hv1, q1⟩ := own_hills HO1.out
    have Q1 := Lib.hid q1
    subst hv1
    have A3 := Lib.hid a3; have C8 := Lib.hid c8; have C9 := Lib.hid c9
    clear f1 f4 hok hoks hall q1 HFA
    by_cases hbig : 300 < ss.length
    · have h300 : (300 : Int) < (ss.length : Int) := by omega
      go_wp2_with fail
      refine (told_any _).mono ?_; rintro e w4 ⟨rfl, hg4⟩
      replace K := Lib.hid (grown_trans K.out hg4)
      clear hg4
      go_wp2_with fail
      go_ret
      exact ⟨by first | rfl | simp, K.out⟩
    · have h300 : ¬ (300 : Int) < (ss.length : Int) := by omega
      go_wp2_with fail
      go_loopw [33] (fun iv wr => ∃ k : Nat, k ≤ L.length ∧ iv = .int .i64 k ∧ Hid (w1.grownBy wr none)) (fun iv _ => L.length - (intOf iv).toNat)
      case atStart => exact ⟨0, Nat.zero_le _, rfl, grown_refl _ _⟩
      case round =>
        obtain ⟨k, hk, rfl, hg⟩ := hrel
        have a3 := grown_cell hg.out A3.out
        have c8 := grown_cell hg.out C8.out
        have c9 := grown_cell hg.out C9.out
        by_cases hlt : k < L.length
        · obtain ⟨g1, rfl, x0, x1, x2, x3⟩ := Q1.out k hlt
          obtain ⟨a, b, i1, i2, i3, i4, i5, i6⟩ := hillsOk_at L 0 HOK.out k hlt
          replace x0 := grown_cell hg.out x0; replace x1 := grown_cell hg.out x1; replace x2 := grown_cell hg.out x2; replace x3 := grown_cell hg.out x3
          rw [i4] at x0 x1 x2 x3
          simp only [hillV] at x0 x1 x2 x3
          obtain ⟨b2, off, rfl⟩ : ∃ b off, so = some ⟨b, off, none⟩ := by
            have hne : ss ≠ [] := fun h => by rw [h] at i3; simp at i3
            cases so with
            | none => exact absurd (HS1.out.nil rfl) hne
            | some p =>
              obtain ⟨b, off, spot⟩ := p
              have hsp := HS1.out.spot _ rfl hne
              simp only at hsp
              subst hsp
              exact ⟨b, off, rfl⟩
          have HSR := Lib.hid (HS1.out.grown hg.out)
          have za := z_cell HSR.out (show a < ss.length by omega)
          have zb := z_cell HSR.out i3
          have ba := HZ.out a
          have bb := HZ.out b
          have HIS := Lib.hid i5
          have HPV : Hid (∀ (h0 : 0 < k), (L[k - 1]'(by omega)).to_ < (a : Int)) := i6
          have HI2 := Lib.hid i2
          generalize zOf ss a = va at *
          generalize zOf ss b = vb at *
          generalize wayN ss b - wayN ss a = wy at *
          have rz : IntKind.i64.wrap (vb - va) = vb - va := IntWalk.i64_in _ (by omega)
          have n0 : decide ((a : Int) < 0) = false := by simp
          have n1 : decide ((ss.length : Int) ≤ (b : Int)) = false := by simp; omega
          have n2 : decide (ss.length ≤ b) = false := by simp; omega
          have b0 : (0 : Int) ≤ (b : Int) := by omega
          have b1 : (b : Int) < (ss.length : Int) := by omega
          have a0 : (0 : Int) ≤ (a : Int) := by omega
          have a1 : (a : Int) < (ss.length : Int) := by omega
          have lA : w.heap.size < wr.heap.size := lt_of_cell a3
          clear i1 i2 i4 i5 i6
          have hab := HI2.out
          cases k with
          | zero =>
            have G2 := World.grownBy_alloc wr (.cells #[.int .i64 (a : Int), .int .i64 (b : Int), .int .i64 (vb - va), .int .i64 wy] 33) none
            have a3' := grown_cell G2 a3
            have za' := grown_cell G2 za
            have zb' := grown_cell G2 zb
            have HS2 := Lib.hid (HSR.out.grown G2)
            have HG2 := Lib.hid (grown_trans hg.out G2)
            clear G2 c8 c9
            go_wp2_with fail
            go_quiet ((go_at_call 19; exact Calls.quiet_of (isHill_yes b2 off sc ss hl a b HI2.out i3 least dip l0 l1 d0 d1 _ (Lib.hid (HS2.out.grown (grown_drewN _ _ _))) HZ HIS)))
            go_wp2_with fail
            go_roundw
            case rel => exact ⟨1, by omega, by go_num, grown_trans HG2.out (grown_drewN _ _ _)⟩
            case measure => simp [intOf]; omega
          | succ i =>
            obtain ⟨g2, e2, y0, y1, y2, y3⟩ := Q1.out i (by omega)
            obtain rfl : g1 = g2 := by injection e2 with e2; injection e2
            have hpv := HPV.out (by omega)
            simp only [Nat.add_sub_cancel] at hpv
            replace y1 := grown_cell hg.out y1
            generalize (L[i]'(by omega)).to_ = pt at *
            have m1 : decide ((a : Int) ≤ pt) = false := by simp; omega
            have em : ((i + 1 : Nat) : Int) - 1 = (i : Int) := by omega
            have rm : IntKind.i64.wrap (i : Int) = (i : Int) := IntWalk.i64_in _ (by have := HN.out; omega)
            have hi0 : (0 : Int) ≤ (i : Int) := by omega
            have hi1 : (i : Int) < (L.length : Int) := by omega
            have m0 : decide ((0 : Int) < ((i + 1 : Nat) : Int)) = true := by simp <;> omega
            have m2 : (0 : Int) < ((i + 1 : Nat) : Int) := by omega
            have hl20 : (L.length : Int) ≤ 20000 := by have := HN.out; omega
            have G2 := World.grownBy_alloc wr (.cells #[.int .i64 (a : Int), .int .i64 (b : Int), .int .i64 (vb - va), .int .i64 wy] 33) none
            have a3' := grown_cell G2 a3
            have za' := grown_cell G2 za
            have zb' := grown_cell G2 zb
            have y1' := grown_cell G2 y1
            have HS2 := Lib.hid (HSR.out.grown G2)
            have HG2 := Lib.hid (grown_trans hg.out G2)
            clear G2 c8 c9 y0 y2 y3 e2
            go_wp2_with fail
            go_quiet ((go_at_call 19; exact Calls.quiet_of (isHill_yes b2 off sc ss hl a b HI2.out i3 least dip l0 l1 d0 d1 _ (Lib.hid (HS2.out.grown (grown_drewN _ _ _))) HZ HIS)))
            go_wp2_with fail
            go_roundw
            case rel => exact ⟨i + 1 + 1, by omega, by go_num, grown_trans HG2.out (grown_drewN _ _ _)⟩
            case measure => simp [intOf]; omega
        · have HG := Lib.hid (grown_trans K.out hg.out)
          by_cases t1 : x < 0
          · go_wp2_with fail
            refine (told_any _).mono ?_; rintro e w4 ⟨rfl, hg4⟩
            have K2 := Lib.hid (grown_trans HG.out hg4)
            clear hg4
            go_wp2_with fail
            go_ret
            exact ⟨by first | rfl | simp, K2.out⟩
          by_cases t2 : (ss.length : Int) ≤ y
          · go_wp2_with fail
            refine (told_any _).mono ?_; rintro e w4 ⟨rfl, hg4⟩
            have K2 := Lib.hid (grown_trans HG.out hg4)
            clear hg4
            go_wp2_with fail
            go_ret
            exact ⟨by first | rfl | simp, K2.out⟩
          by_cases t3 : y < x
          · go_wp2_with fail
            refine (told_any _).mono ?_; rintro e w4 ⟨rfl, hg4⟩
            have K2 := Lib.hid (grown_trans HG.out hg4)
            clear hg4
            go_wp2_with fail
            go_ret
            exact ⟨by first | rfl | simp, K2.out⟩
          obtain ⟨p, rfl⟩ : ∃ p : Nat, x = p := ⟨x.toNat, by omega⟩
          obtain ⟨q, rfl⟩ : ∃ q : Nat, y = q := ⟨y.toNat, by omega⟩
          have hpq : p ≤ q := by omega
          have hq : q < ss.length := by omega
          obtain ⟨b2, off, rfl⟩ : ∃ b off, so = some ⟨b, off, none⟩ := by
            have hne : ss ≠ [] := fun h => by rw [h] at hq; simp at hq
            cases so with
            | none => exact absurd (HS1.out.nil rfl) hne
            | some p =>
              obtain ⟨b, off, spot⟩ := p
              have hsp := HS1.out.spot _ rfl hne
              simp only at hsp
              subst hsp
              exact ⟨b, off, rfl⟩
          have HSR := Lib.hid (HS1.out.grown hg.out)
          obtain ⟨B, hB⟩ : ∃ B : Bool, (B = true ↔ IsHill (zOf ss) least dip p q) := by
            rcases Classical.em (IsHill (zOf ss) least dip p q) with h | h
            · exact ⟨true, ⟨fun _ => h, fun _ => rfl⟩⟩
            · exact ⟨false, ⟨fun e => (by cases e), fun e => absurd e h⟩⟩
          have HB := Lib.hid hB
          have HO2 : Hid (wr.ownsRow _ 33 4 (.slice ao L.length cap) L.length (hillsVs L)) := HO1.out.kept hg.out (Classical.em _)
          clear hB
          go_wp2_with fail
          refine (isHill_any b2 off sc ss hl p q hpq hq least dip l0 l1 d0 d1 _ HSR HZ B HB).mono ?_; rintro e w3 ⟨rfl, m, rfl⟩
          cases B
          · go_wp2_with fail
            refine (told_any _).mono ?_; rintro e w4 ⟨rfl, hg4⟩
            have K2 := Lib.hid (grown_trans (grown_trans HG.out (grown_drewN _ _ _)) hg4)
            clear hg4
            go_wp2_with fail
            go_ret
            exact ⟨by first | rfl | simp, K2.out⟩
          · have HEX := Lib.hid (HALL.out p q hpq hq (HB.out.1 rfl))
            have hmf : ∀ (fn : Fn) (first cap : Array Value) (w : World), (Instr.makeFunc fn first cap).run Try.prog w = .ok (.func fn first cap) w := fun _ _ _ _ => rfl
            go_wp2_with fail
            refine (containsHill_any (w.heap.size + 1) (w.heap.size + 1 + 1) p q _ (HO2.out.kept (grown_drewN wr none m) (Classical.em _)) HN.out c8 c9 HEX.out).mono ?_; rintro e w4 ⟨rfl, hg4⟩
            have K2 := Lib.hid (grown_trans (grown_trans HG.out (grown_drewN _ _ _)) hg4)
            clear hg4
            go_wp2_with fail
            refine (told_any _).mono ?_; rintro e w5 ⟨rfl, hg5⟩
            replace K2 := Lib.hid (grown_trans K2.out hg5)
            clear hg5
            go_wp2_with fail
            go_ret
            exact ⟨by first | rfl | simp, K2.out⟩
  · have hne : (E != 0) = true := by simpa using hE
    clear hE HFA
    go_wp2_with fail
    refine (told_any _).mono ?_; rintro e w4 ⟨rfl, hg4⟩
    replace K := Lib.hid (grown_trans K.out hg4)
    clear hg4
    go_wp2_with fail
    go_ret
    exact ⟨by first | rfl | simp, K.out⟩

end Go.Proofs.Ytimfgplihppeeaa
