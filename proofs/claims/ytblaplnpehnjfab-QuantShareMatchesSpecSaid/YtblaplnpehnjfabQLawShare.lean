/- The parts of a total add up to it, each is less than 1 away from its exact part, and one with a greater weight is not less. -/
import Derived.Test.YtblaplnpehnjfabQShare
import Derived.Test.YtblaplnpehnjfabQTold
import Derived.Test.YtblaplnpehnjfabQRef
namespace Go.Proofs.Ytblaplnpehnjfab
open Go.RowKit

theorem rscale_is {a num den how n e : Int} (h : scaleV a num den how = (n, e)) (ha0 : -9223372036854775808 ≤ a) (ha1 : a ≤ 9223372036854775807) (hn0 : -9223372036854775808 ≤ num) (hn1 : num ≤ 9223372036854775807) (hd0 : -9223372036854775808 ≤ den) (hd1 : den ≤ 9223372036854775807) (w : World) :
    Calls Try.prog 16 #[.int .i64 a, .int .i64 num, .int .i64 den, .int .i64 how] w fun x w' => x = .returned (.tuple #[.int .i64 n, .int .i64 e]) ∧ w.grownBy w' none := by
  have q := refScale_any a num den how ha0 ha1 hn0 hn1 hd0 hd1 w
  rw [h] at q; exact q

theorem scale_part {t s x : Int} (ht0 : 0 ≤ t) (ht1 : t ≤ 1000000000000) (hs : 0 < s) (hx0 : 0 ≤ x) (hx1 : x ≤ s) : scaleV t x s 1 = (partOf t s x, 0) := by
  have hp := part_bd ht0 hs hx0 hx1
  have hr : rndV 1 (t * x) s = partOf t s x := by simp [rndV, upB, partOf]
  unfold scaleV
  rw [if_neg (by omega), if_neg (by omega), hr, if_neg]
  unfold big
  omega

/-- What is true of shares. -/
structure Shares (t s : Int) (ws L : List Int) : Prop where
  t0 : 0 ≤ t
  t1 : t ≤ 1000000000000
  n0 : 0 < ws.length
  n1 : ws.length ≤ 1000
  s0 : 0 < s
  s1 : s ≤ 1000000000
  sum : ws.sum = s
  good : ∀ i, i < ws.length → 0 ≤ nth ws i ∧ nth ws i ≤ s ∧ nth ws i ≤ 1000000
  len : L.length = ws.length
  all : L.sum = t
  near : ∀ i, i < ws.length → partOf t s (nth ws i) ≤ nth L i ∧ nth L i ≤ partOf t s (nth ws i) + 1 ∧ 0 ≤ partOf t s (nth ws i) ∧ partOf t s (nth ws i) ≤ t
  order : ∀ i k, i < ws.length → k < ws.length → nth ws i < nth ws k → nth L i ≤ nth L k

theorem shareE_zero {t : Int} {ws : List Int} (h : shareE t ws = 0) : 0 ≤ t ∧ t ≤ 1000000000000 ∧ ws.length ≤ 1000 ∧ goodB ws = true ∧ ws.sum ≠ 0 := by
  unfold shareE at h
  split at h
  · simp at h
  · split at h
    · simp at h
    · split at h
      · simp at h
      · split at h
        · simp at h
        · rename_i h1 h2 h3 h4
          refine ⟨by omega, by omega, by omega, ?_, h4⟩
          simpa using h3

theorem shares_of {t : Int} {ws : List Int} {f : Nat → Nat} (h : shareE t ws = 0) (ho : Ord (keyOf t ws.sum ws) ws.length f) :
    Shares t ws.sum ws (bumped (partsL t ws.sum ws) f (leftAt t ws.sum ws ws.length).toNat) := by
  obtain ⟨h1, h2, h3, h4, h5⟩ := shareE_zero h
  have hok := goodB_true h4
  have hsum := sum_bd ws 1000000 hok
  have hn0 : 0 < ws.length := by
    rcases Nat.eq_zero_or_pos ws.length with q | q
    · exfalso; rw [q] at hsum; omega
    · exact q
  have hs0 : 0 < ws.sum := by omega
  have hxs : ∀ i, i < ws.length → nth ws i ≤ ws.sum := fun i hi => by
    have q0 : ∀ i, i < ws.length → 0 ≤ nth ws i := fun i hi => (hok i hi).1
    have q1 := sum_take_le ws q0 (i + 1)
    have q2 := (sum_take_bd ws i 1000000 (by omega) hok).1
    have q3 := sum_take_succ ws i hi
    omega
  have hpl : (partsL t ws.sum ws).length = ws.length := by simp [partsL]
  have hb := left_bd (ws := ws) h1 hs0 (fun i hi => (hok i hi).1) rfl ws.length
  have hlt := left_lt (t := t) hs0 (rfl : ws.sum = ws.sum) hn0
  have hf : ∀ k, k < (partsL t ws.sum ws).length → f k < (partsL t ws.sum ws).length := fun k hk => by rw [hpl] at hk ⊢; exact ho.lt hk
  have hlL : (leftAt t ws.sum ws ws.length).toNat ≤ ws.length := by omega
  refine ⟨h1, h2, hn0, h3, hs0, by omega, rfl, fun i hi => ⟨(hok i hi).1, hxs i hi, (hok i hi).2⟩, ?_, ?_, fun i hi => ?_, fun i k hi hk hw => ?_⟩
  · rw [bumped_len, hpl]
  · rw [bumped_sum _ _ hf _ (by rw [hpl]; exact hlL)]
    have e : leftAt t ws.sum ws ws.length = t - (partsL t ws.sum ws).sum := by
      unfold leftAt
      rw [List.take_of_length_le (by rw [hpl]; exact Nat.le_refl _)]
    omega
  · have q := bumped_nth (partsL t ws.sum ws) f ho.inj hf _ (by rw [hpl]; exact hlL) i
    rw [nth_parts hi] at q
    have p := part_bd h1 hs0 (hok i hi).1 (hxs i hi)
    rcases q with ⟨q, _⟩ | ⟨q, _⟩ <;> omega
  · exact share_order h1 hs0 ho hlL (fun z => by omega) hi hk hw

set_option maxRecDepth 100000 in
set_option maxHeartbeats 3200000 in
theorem addUp_walk (t : Int) (ao : Option Addr) (cap : Nat) (ws : List Int) (hcl : (ws.length : Int) ≤ 9223372036854775807) (w : World) (hw : IntsAt w ao ws) :
    Calls Try.prog 5 #[.int .i64 t, .slice ao ws.length cap] w fun e w' => e = .returned (.bool true) ∧ w.grownBy w' none := by
  have HW := Lib.hid hw; clear hw
  go_enter Try.func5, Try.ntmps5
  go_wp2_with fail
  refine (share_any t ao cap ws hcl w HW.out).mono ?_
  rintro e w1 ⟨ho, hg1⟩
  rcases ho with ⟨hne, rfl⟩ | ⟨hz, g, f, rfl, hgs, hord, hrow⟩
  · obtain ⟨E, hE⟩ : ∃ E, shareE t ws = E := ⟨_, rfl⟩
    rw [hE] at hne ⊢
    have hq : (E != 0) = true := by simpa using hne
    clear hE hne
    go_wp2_with (go_at_call 15; refine (told_any _).mono ?_; rintro _ w2 ⟨rfl, hg2⟩)
    go_ret
    exact ⟨rfl, grown_trans hg1 (by assumption)⟩
  · have hS := shares_of hz hord
    obtain ⟨L, hL⟩ : ∃ L, bumped (partsL t ws.sum ws) f (leftAt t ws.sum ws ws.length).toNat = L := ⟨_, rfl⟩
    obtain ⟨s, hs⟩ : ∃ s, ws.sum = s := ⟨_, rfl⟩
    rw [hL] at hS hrow
    rw [hs] at hS
    clear hL hord hz
    obtain ⟨b, off, rfl, hcells⟩ := HW.out.some hS.n0
    have hn1 := hS.n1
    have hn0 := hS.n0
    have ht0 := hS.t0
    have ht1 := hS.t1
    have hs0 := hS.s0
    have hs1 := hS.s1
    have HS := Lib.hid hS; have HC := Lib.hid hcells; have HR := Lib.hid hrow; have HSUM := Lib.hid hs
    clear hS hcells hrow hs
    go_wp2_with fail
    go_loopw [7, 8, 33] (fun av sv iv wr => ∃ j : Nat, j ≤ ws.length ∧ iv = .int .i64 j ∧ av = .int .i64 (ws.take j).sum ∧ sv = .int .i64 (L.take j).sum ∧ w1 = wr) (fun _ _ iv _ => ws.length - (intOf iv).toNat)
    case atStart => exact ⟨0, Nat.zero_le _, rfl, by simp, by simp, rfl⟩
    case round =>
      obtain ⟨j, hj, rfl, rfl, rfl, rfl⟩ := hrel
      by_cases hlt : j < ws.length
      · have hc := hg1.cell (HC.out j hlt) (by simp)
        have hr := HR.out.cell hlt
        have hx := HS.out.good j hlt
        have hy := HS.out.near j hlt
        have ha := sum_take_bd ws j 1000000 (by omega) (fun i hi => ⟨(HS.out.good i hi).1, (HS.out.good i hi).2.2⟩)
        have hb := sum_take_bd L j 1000000000001 (by omega) (fun i hi => by have q := HS.out.near i (by rw [← HS.out.len]; exact hi); omega)
        have h1 := sum_take_succ ws j hlt
        have h2 := sum_take_succ L j (by rw [HS.out.len]; exact hlt)
        obtain ⟨x, hx'⟩ : ∃ x, nth ws j = x := ⟨_, rfl⟩
        obtain ⟨y, hy'⟩ : ∃ y, nth L j = y := ⟨_, rfl⟩
        obtain ⟨A, hA⟩ : ∃ A, (ws.take j).sum = A := ⟨_, rfl⟩
        obtain ⟨B, hB⟩ : ∃ B, (L.take j).sum = B := ⟨_, rfl⟩
        rw [hx'] at hc hx h1 hy
        rw [hy'] at hr hy h2
        rw [hA] at ha h1
        rw [hB] at hb h2
        rw [hA, hB]
        have y0 : 0 ≤ y := by omega
        have y1 : y ≤ 1000000000001 := by omega
        have jb : (j : Int) ≤ 1000 := by omega
        have H12 := Lib.hid (And.intro h1 h2)
        clear h1 h2 hy hx' hy' hA hB
        go_wp2_with fail
        exact ⟨⟨j + 1, by omega, by go_num, by rw [H12.out.1], by rw [H12.out.2], by first | rfl | trivial⟩, by simp [intOf]; omega⟩
      · have hje : j = ws.length := by omega
        subst hje
        have eA : (ws.take ws.length).sum = s := by rw [List.take_length]; exact HSUM.out
        have eB : (L.take ws.length).sum = t := by rw [List.take_of_length_le (by rw [HS.out.len]; exact Nat.le_refl _)]; exact HS.out.all
        rw [eA, eB]
        clear eA eB
        go_wp2_with fail
        go_loopw [50] (fun iv wr => ∃ j : Nat, j ≤ ws.length ∧ iv = .int .i64 j ∧ w1.grownBy wr none) (fun iv _ => ws.length - (intOf iv).toNat)
        case atStart => exact ⟨0, Nat.zero_le _, rfl, grown_refl _ _⟩
        case round =>
          obtain ⟨i, hi, rfl, hgi⟩ := hrel
          by_cases hlt : i < ws.length
          · have hgw := grown_trans hg1 hgi
            have hc := hgw.cell (HC.out i hlt) (by simp)
            have hx := HS.out.good i hlt
            have hy := HS.out.near i hlt
            have hsc := scale_part ht0 ht1 hs0 hx.1 hx.2.1
            have hord := fun k hk => HS.out.order i k hlt hk
            have hri := (HR.out.grown hgi).cell hlt
            obtain ⟨x, hx'⟩ : ∃ x, nth ws i = x := ⟨_, rfl⟩
            obtain ⟨y, hy'⟩ : ∃ y, nth L i = y := ⟨_, rfl⟩
            obtain ⟨p, hp'⟩ : ∃ p, partOf t s x = p := ⟨_, rfl⟩
            rw [hx'] at hc hx hy hsc hord
            rw [hp'] at hy hsc
            rw [hy'] at hri hy hord
            have HSC := Lib.hid hsc; have HORD := Lib.hid hord; have HXY := Lib.hid (And.intro hx' hy')
            clear hsc hord hx' hy' hp'
            go_wp2_with fail
            refine (rscale_is HSC.out (by omega) (by omega) (by omega) (by omega) (by omega) (by omega) _).mono ?_
            rintro e w2 ⟨rfl, hg2⟩
            have hri2 := hg2.cell hri (by simp)
            have hgi2 := grown_trans hgi hg2
            clear hri hc
            go_wp2_with fail
            go_loopw [79] (fun kv wt => ∃ k : Nat, k ≤ ws.length ∧ kv = .int .i64 k ∧ w2.grownBy wt none) (fun kv _ => ws.length - (intOf kv).toNat)
            case atStart => exact ⟨0, Nat.zero_le _, rfl, grown_refl _ _⟩
            case round =>
              obtain ⟨k, hk, rfl, hgk⟩ := hrel
              by_cases hlk : k < ws.length
              · have hgk2 := grown_trans hgi2 hgk
                have hck := (grown_trans hg1 hgk2).cell (HC.out k hlk) (by simp)
                have hrk := (HR.out.grown hgk2).cell hlk
                have hri3 := hgk.cell hri2 (by simp)
                have ho := HORD.out k hlk
                obtain ⟨v, hv⟩ : ∃ v, nth ws k = v := ⟨_, rfl⟩
                obtain ⟨z, hz⟩ : ∃ z, nth L k = z := ⟨_, rfl⟩
                rw [hv] at hck ho
                rw [hz] at hrk ho
                clear hri2 hv hz
                by_cases hvx : x < v
                · have hzy : ¬ z < y := by have := ho hvx; omega
                  clear ho
                  have hd1 : decide (x < v) = true := by simpa using hvx
                  have hrkq : ∀ q, (wr.drewN q).cell? ⟨g, k, none⟩ = some (.int .i64 z) := fun q => by simpa using hrk
                  have hriq : ∀ q, (wr.drewN q).cell? ⟨g, i, none⟩ = some (.int .i64 y) := fun q => by simpa using hri3
                  have k0 : (0 : Int) ≤ (k : Int) := by omega
                  have k1 : (k : Int) < (ws.length : Int) := by omega
                  have i0 : (0 : Int) ≤ (i : Int) := by omega
                  have i1 : (i : Int) < (ws.length : Int) := by omega
                  go_wp2_with fail
                  go_quiet (fail)
                  go_wp2_with fail
                  exact ⟨⟨k + 1, by omega, by go_num, grown_trans hgk (grown_drewN _ _ _)⟩, by simp [intOf]; omega⟩
                · clear ho
                  have hd1 : decide (x < v) = false := by simpa using hvx
                  go_wp2_with fail
                  go_quiet (fail)
                  go_wp2_with fail
                  exact ⟨⟨k + 1, by omega, by go_num, grown_trans hgk (grown_drewN _ _ _)⟩, by simp [intOf]; omega⟩
              · go_wp2_with fail
                exact ⟨⟨i + 1, by omega, by go_num, grown_trans hgi2 hgk⟩, by simp [intOf]; omega⟩
          · go_wp2_with (go_at_call 15; refine (told_any _).mono ?_; rintro _ w3 ⟨rfl, hg3⟩)
            go_ret
            exact ⟨rfl, grown_trans (grown_trans hg1 hgi) (by assumption)⟩
end Go.Proofs.Ytblaplnpehnjfab
