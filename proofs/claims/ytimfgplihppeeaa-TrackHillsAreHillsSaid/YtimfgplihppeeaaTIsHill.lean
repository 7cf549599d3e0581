/- The contracts of isHill, and of asking whether a hill of a list has two samples within it. -/
import Derived.Test.YtimfgplihppeeaaTHillsO
namespace Go.Proofs.Ytimfgplihppeeaa
open Go.RowKit

set_option maxHeartbeats 1600000 in
theorem isHill_any (b off cap : Nat) (ss : List Smp) (hl : (ss.length : Int) ≤ 20000) (fr t : Nat) (hft : fr ≤ t) (ht : t < ss.length) (least dip : Int) (l0 : 1 ≤ least) (l1 : least ≤ 200000) (d0 : 0 ≤ dip) (d1 : dip ≤ 200000) (w : World) (HS : Hid (SmpsAt w (some ⟨b, off, none⟩) ss)) (HZ : Hid (∀ k, -100000 ≤ zOf ss k ∧ zOf ss k ≤ 100000)) (B : Bool) (HB : Hid (B = true ↔ IsHill (zOf ss) least dip fr t)) :
    Calls Try.prog 19 #[.slice (some ⟨b, off, none⟩) ss.length cap, .int .i64 fr, .int .i64 t, .int .i64 least, .int .i64 dip] w fun x w' => x = .returned (.bool B) ∧ ∃ m, w' = w.drewN m := by
  have cf := z_cell HS.out (show fr < ss.length by omega)
  have ct := z_cell HS.out ht
  have bf := HZ.out fr
  have bt := HZ.out t
  obtain ⟨zf, hzf⟩ : ∃ z, zOf ss fr = z := ⟨_, rfl⟩
  obtain ⟨zt, hzt⟩ : ∃ z, zOf ss t = z := ⟨_, rfl⟩
  rw [hzf] at cf bf
  rw [hzt] at ct bt
  have HF := Lib.hid hzf; have HT := Lib.hid hzt
  clear hzf hzt
  have rz : IntKind.i64.wrap (zt - zf) = zt - zf := IntWalk.i64_in _ (by omega)
  have HRZ := Lib.hid rz
  have t0 : (0 : Int) ≤ (t : Int) := by omega
  have t1 : (t : Int) < (ss.length : Int) := by omega
  have f0 : (0 : Int) ≤ (fr : Int) := by omega
  have f1 : (fr : Int) < (ss.length : Int) := by omega
  have ti : (t : Int) ≤ 20000 := by omega
  clear rz
  go_enter Try.func19, Try.ntmps19
  go_wp2_with fail
  go_loopw [11] (fun iv wr => ∃ i : Nat, fr ≤ i ∧ i ≤ t + 1 ∧ iv = .int .i64 i ∧ Hid (∃ m, wr = w.drewN m) ∧ Hid (∀ j, fr ≤ j → j < i → zOf ss fr ≤ zOf ss j ∧ zOf ss j ≤ zOf ss t ∧ ∀ k, j ≤ k → k ≤ t → zOf ss j - zOf ss k ≤ dip))
    (fun iv _ => t + 1 - (intOf iv).toNat)
  case atStart => exact ⟨fr, Nat.le_refl _, by omega, rfl, ⟨0, rfl⟩, fun j a b => absurd b (by omega)⟩
  case round =>
    obtain ⟨i, h1, h2, rfl, hm, hall⟩ := hrel
    obtain ⟨m, rfl⟩ := hm.out
    clear hm
    by_cases hit : i ≤ t
    · have hil : i < ss.length := by omega
      have ci := z_cell HS.out hil
      have bi := HZ.out i
      obtain ⟨zi, hzi⟩ : ∃ z, zOf ss i = z := ⟨_, rfl⟩
      rw [hzi] at ci bi
      have HI := Lib.hid hzi
      clear hzi
      have dci : (w.drewN m).cell? ⟨b, off + i * 7 + 3, none⟩ = some (.int .i64 zi) := ci
      have dcf : (w.drewN m).cell? ⟨b, off + fr * 7 + 3, none⟩ = some (.int .i64 zf) := cf
      have dct : (w.drewN m).cell? ⟨b, off + t * 7 + 3, none⟩ = some (.int .i64 zt) := ct
      have g0 : decide ((i : Int) ≤ (t : Int)) = true := by simp; omega
      have i1 : (i : Int) < (ss.length : Int) := by omega
      by_cases a1 : zi < zf
      · have HBF : Hid (B = false) := by
          show _ = _
          rw [Bool.eq_false_iff]; intro h
          have := ((HB.out.1 h).1 i h1 hit).1
          rw [HF.out, HI.out] at this; omega
        have q1 : decide (zi < zf) = true := by simpa using a1
        go_wp2_with fail
        go_quiet (fail)
        go_wp2_with fail
        go_ret
        exact ⟨ret_bool HBF.out.symm, (by first | exact ⟨_, rfl⟩ | exact ⟨_, World.drewN_drewN _ _ _⟩)⟩
      · have q1 : decide (zi < zf) = false := by simpa using a1
        by_cases a2 : zt < zi
        · have HBF : Hid (B = false) := by
            show _ = _
            rw [Bool.eq_false_iff]; intro h
            have := ((HB.out.1 h).1 i h1 hit).2.1
            rw [HT.out, HI.out] at this; omega
          have q2 : decide (zt < zi) = true := by simpa using a2
          go_wp2_with fail
          go_quiet (fail)
          go_wp2_with fail
          go_ret
          exact ⟨ret_bool HBF.out.symm, (by first | exact ⟨_, rfl⟩ | exact ⟨_, World.drewN_drewN _ _ _⟩)⟩
        · have q2 : decide (zt < zi) = false := by simpa using a2
          have HLO : Hid (zOf ss fr ≤ zOf ss i ∧ zOf ss i ≤ zOf ss t) := by show _ ∧ _; rw [HF.out, HT.out, HI.out]; omega
          clear a1 a2
          go_wp2_with fail
          go_quiet (fail)
          go_wp2_with fail
          go_loopw [12] (fun kv wt => ∃ k : Nat, i ≤ k ∧ k ≤ t + 1 ∧ kv = .int .i64 k ∧ Hid (∃ m, wt = w.drewN m) ∧ Hid (∀ k', i ≤ k' → k' < k → zOf ss i - zOf ss k' ≤ dip))
            (fun kv _ => t + 1 - (intOf kv).toNat)
          case atStart => exact ⟨i, Nat.le_refl _, by omega, rfl, (by first | exact ⟨_, rfl⟩ | exact ⟨_, World.drewN_drewN _ _ _⟩), fun j a b => absurd b (by omega)⟩
          case round =>
            obtain ⟨k, h3, h4, rfl, hm2, hin⟩ := hrel
            obtain ⟨m2, rfl⟩ := hm2.out
            clear hm2 dci dcf dct q1 q2
            by_cases hkt : k ≤ t
            · have hkl : k < ss.length := by omega
              have ck := z_cell HS.out hkl
              have bk := HZ.out k
              obtain ⟨zk, hzk⟩ : ∃ z, zOf ss k = z := ⟨_, rfl⟩
              rw [hzk] at ck bk
              have HK := Lib.hid hzk
              clear hzk
              have dci : (w.drewN m2).cell? ⟨b, off + i * 7 + 3, none⟩ = some (.int .i64 zi) := ci
              have dck : (w.drewN m2).cell? ⟨b, off + k * 7 + 3, none⟩ = some (.int .i64 zk) := ck
              have k1 : (k : Int) < (ss.length : Int) := by omega
              have rk : IntKind.i64.wrap (zi - zk) = zi - zk := IntWalk.i64_in _ (by omega)
              by_cases a3 : dip < zi - zk
              · have HBF : Hid (B = false) := by
                  show _ = _
                  rw [Bool.eq_false_iff]; intro h
                  have := ((HB.out.1 h).1 i h1 hit).2.2 k h3 hkt
                  rw [HI.out, HK.out] at this; omega
                go_wp2_with fail
                go_quiet (fail)
                go_wp2_with fail
                go_ret
                exact ⟨ret_bool HBF.out.symm, (by first | exact ⟨_, rfl⟩ | exact ⟨_, World.drewN_drewN _ _ _⟩)⟩
              · have HIN : Hid (∀ k', i ≤ k' → k' < k + 1 → zOf ss i - zOf ss k' ≤ dip) := fun k' a b => by
                  rcases Nat.lt_or_ge k' k with h | h
                  · exact hin.out k' a h
                  · obtain rfl : k' = k := by omega
                    rw [HI.out, HK.out]; omega
                clear hin
                go_wp2_with fail
                go_quiet (fail)
                go_wp2_with fail
                go_roundw
                case rel => exact ⟨k + 1, by omega, by omega, by go_num, (by first | exact ⟨_, rfl⟩ | exact ⟨_, World.drewN_drewN _ _ _⟩), HIN.out⟩
                case measure => simp [intOf]; omega
            · have HALL : Hid (∀ j, fr ≤ j → j < i + 1 → zOf ss fr ≤ zOf ss j ∧ zOf ss j ≤ zOf ss t ∧ ∀ k, j ≤ k → k ≤ t → zOf ss j - zOf ss k ≤ dip) := fun j a c => by
                rcases Nat.lt_or_ge j i with h | h
                · exact hall.out j a h
                · obtain rfl : j = i := by omega
                  exact ⟨HLO.out.1, HLO.out.2, fun k' a' b' => hin.out k' a' (by omega)⟩
              clear hall hin
              go_wp2_with fail
              go_roundw
              case rel => exact ⟨i + 1, by omega, by omega, by go_num, ⟨_, rfl⟩, HALL.out⟩
              case measure => simp [intOf]; omega
    · have hit' : i = t + 1 := by omega
      have HALL : Hid (∀ j, fr ≤ j → j ≤ t → zOf ss fr ≤ zOf ss j ∧ zOf ss j ≤ zOf ss t ∧ ∀ k, j ≤ k → k ≤ t → zOf ss j - zOf ss k ≤ dip) := fun j a c => hall.out j a (by omega)
      have HBD : Hid (B = decide (least ≤ zt - zf)) := by
        show _ = _
        rw [Bool.eq_iff_iff, HB.out, decide_eq_true_iff, ← HF.out, ← HT.out]
        exact ⟨fun h => h.2, fun h => ⟨HALL.out, h⟩⟩
      have dcf : (w.drewN m).cell? ⟨b, off + fr * 7 + 3, none⟩ = some (.int .i64 zf) := cf
      have dct : (w.drewN m).cell? ⟨b, off + t * 7 + 3, none⟩ = some (.int .i64 zt) := ct
      have rz := HRZ.out
      clear hall hit' HALL
      go_wp2_with fail
      go_quiet (fail)
      go_wp2_with fail
      go_ret
      exact ⟨ret_bool HBD.out.symm, (by first | exact ⟨_, rfl⟩ | exact ⟨_, World.drewN_drewN _ _ _⟩)⟩

theorem isHill_yes (b off cap : Nat) (ss : List Smp) (hl : (ss.length : Int) ≤ 20000) (fr t : Nat) (hft : fr ≤ t) (ht : t < ss.length) (least dip : Int) (l0 : 1 ≤ least) (l1 : least ≤ 200000) (d0 : 0 ≤ dip) (d1 : dip ≤ 200000) (w : World) (HS : Hid (SmpsAt w (some ⟨b, off, none⟩) ss)) (HZ : Hid (∀ k, -100000 ≤ zOf ss k ∧ zOf ss k ≤ 100000)) (HB : Hid (IsHill (zOf ss) least dip fr t)) :
    Calls Try.prog 19 #[.slice (some ⟨b, off, none⟩) ss.length cap, .int .i64 fr, .int .i64 t, .int .i64 least, .int .i64 dip] w fun x w' => x = .returned (.bool true) ∧ ∃ m, w' = w.drewN m :=
  isHill_any b off cap ss hl fr t hft ht least dip l0 l1 d0 d1 w HS HZ true ⟨fun _ => HB.out, fun _ => rfl⟩

theorem within_is (h : HillV) (B8 B9 : Nat) (x y : Int) (w : World) (c8 : w.cell? ⟨B8, 0, none⟩ = some (.int .i64 x)) (c9 : w.cell? ⟨B9, 0, none⟩ = some (.int .i64 y)) (B : Bool) (HB : Hid (B = (decide (h.fr ≤ x) && decide (y ≤ h.to_)))) :
    Calls Try.prog 21 #[.agg #[.int .i64 h.fr, .int .i64 h.to_, .int .i64 h.rise, .int .i64 h.way], .pointer (some ⟨B8, 0, none⟩), .pointer (some ⟨B9, 0, none⟩)] w fun e w' => e = .returned (.bool B) ∧ w.grownBy w' none := by
  obtain ⟨f, t, r, wy⟩ := h
  have hv := HB.out
  simp only at hv
  have d8 := grown_cell (World.grownBy_alloc w (.cells #[.int .i64 f, .int .i64 t, .int .i64 r, .int .i64 wy] 33) none) c8
  have d9 := grown_cell (World.grownBy_alloc w (.cells #[.int .i64 f, .int .i64 t, .int .i64 r, .int .i64 wy] 33) none) c9
  clear HB c8 c9
  by_cases h1 : f ≤ x
  · have HV : Hid (B = decide (y ≤ t)) := by show _ = _; rw [hv, decide_eq_true h1, Bool.true_and]
    clear hv
    go_enter Try.func21, Try.ntmps21
    go_wp2_with fail
    go_ret
    exact ⟨ret_bool HV.out.symm, World.grownBy_alloc _ _ _⟩
  · have HV : Hid (B = false) := by show _ = _; rw [hv, decide_eq_false h1, Bool.false_and]
    clear hv
    go_enter Try.func21, Try.ntmps21
    go_wp2_with fail
    go_ret
    exact ⟨ret_bool HV.out.symm, World.grownBy_alloc _ _ _⟩

set_option maxHeartbeats 1600000 in
theorem indexHill_any {base : Nat} {v : Value} {L : List HillV} (B8 B9 : Nat) (x y : Int) (w : World) (ho : w.ownsRow base 33 4 v L.length (hillsVs L)) (hn : L.length ≤ 20000) (c8 : w.cell? ⟨B8, 0, none⟩ = some (.int .i64 x)) (c9 : w.cell? ⟨B9, 0, none⟩ = some (.int .i64 y))
    (j0 : Nat) (hj0 : j0 < L.length) (hx : Hid (L[j0].fr ≤ x ∧ y ≤ L[j0].to_)) :
    Calls Try.prog 72 #[v, .func (.func 21) #[] #[.pointer (some ⟨B8, 0, none⟩), .pointer (some ⟨B9, 0, none⟩)]] w fun e w' => (∃ k : Nat, k ≤ 20000 ∧ e = .returned (.int .i64 k)) ∧ w.grownBy w' none := by
  obtain ⟨a1, c1, rfl, q1⟩ := own_hills ho
  have Q1 := Lib.hid q1; have C8 := Lib.hid c8; have C9 := Lib.hid c9
  clear ho q1 c8 c9
  go_enter Try.func72, Try.ntmps72
  go_wp2_with fail
  go_loopw [8] (fun iv wr => ∃ k : Nat, k ≤ j0 ∧ iv = .int .i64 k ∧ Hid (w.grownBy wr none)) (fun iv _ => L.length - (intOf iv).toNat)
  case atStart => exact ⟨0, Nat.zero_le _, rfl, grown_refl _ _⟩
  case round =>
    obtain ⟨k, hk, rfl, hg⟩ := hrel
    have hlt : k < L.length := by omega
    obtain ⟨g1, rfl, x0, x1, x2, x3⟩ := Q1.out k hlt
    replace x0 := grown_cell hg.out x0; replace x1 := grown_cell hg.out x1; replace x2 := grown_cell hg.out x2; replace x3 := grown_cell hg.out x3
    have HJ : Hid (k = j0 → L[k].fr ≤ x ∧ y ≤ L[k].to_) := fun h => by subst h; exact hx.out
    generalize L[k] = h at *
    obtain ⟨z0, z1, z2, z3⟩ := h
    simp only at x0 x1 x2 x3
    obtain ⟨B, hB⟩ : ∃ B, B = (decide (z0 ≤ x) && decide (y ≤ z1)) := ⟨_, rfl⟩
    have HB := Lib.hid hB
    clear hB
    have hj1 : (j0 : Int) < 20000 := by omega
    go_wp2_with fail
    refine (within_is ⟨z0, z1, z2, z3⟩ B8 B9 x y _ (grown_cell hg.out C8.out) (grown_cell hg.out C9.out) B HB).mono ?_; rintro e w1 ⟨rfl, hg1⟩
    have HG := Lib.hid (grown_trans hg.out hg1)
    clear hg1 x0 x1 x2 x3
    cases B
    · have HNE : Hid (k ≠ j0) := fun h => by
        have q : z0 ≤ x ∧ y ≤ z1 := HJ.out h
        have q2 : false = (decide (z0 ≤ x) && decide (y ≤ z1)) := HB.out
        rw [decide_eq_true q.1, decide_eq_true q.2] at q2
        cases q2
      go_wp2_with fail
      go_roundw
      case rel => exact ⟨k + 1, by have := HNE.out; omega, by go_num, HG.out⟩
      case measure => simp [intOf]; omega
    · go_wp2_with fail
      go_ret
      exact ⟨⟨k, by omega, rfl⟩, HG.out⟩

set_option maxHeartbeats 800000 in
theorem containsHill_any {base : Nat} {v : Value} {L : List HillV} (B8 B9 : Nat) (x y : Int) (w : World) (ho : w.ownsRow base 33 4 v L.length (hillsVs L)) (hn : L.length ≤ 20000) (c8 : w.cell? ⟨B8, 0, none⟩ = some (.int .i64 x)) (c9 : w.cell? ⟨B9, 0, none⟩ = some (.int .i64 y))
    (hx : ∃ h ∈ L, h.fr ≤ x ∧ y ≤ h.to_) :
    Calls Try.prog 20 #[v, .func (.func 21) #[] #[.pointer (some ⟨B8, 0, none⟩), .pointer (some ⟨B9, 0, none⟩)]] w fun e w' => e = .returned (.bool true) ∧ w.grownBy w' none := by
  obtain ⟨h, hm, hb⟩ := hx
  obtain ⟨j0, hj0, rfl⟩ := List.getElem_of_mem hm
  have HB := Lib.hid hb
  have HO := Lib.hid ho; have C8 := Lib.hid c8; have C9 := Lib.hid c9
  clear hb hm ho c8 c9
  go_enter Try.func20, Try.ntmps20
  go_wp2_with fail
  refine (indexHill_any B8 B9 x y w HO.out hn C8.out C9.out j0 hj0 HB).mono ?_; rintro e w1 ⟨⟨k, hk, rfl⟩, hg⟩
  have HG := Lib.hid hg
  have hk0 : (0 : Int) ≤ (k : Int) := by omega
  clear hg
  go_wp2_with fail
  go_ret
  exact ⟨by first | rfl | simp, HG.out⟩

end Go.Proofs.Ytimfgplihppeeaa
