/- The contract of the reference's ways. -/
import Derived.Test.YtgkhhfojioepgaaBaseC
import Derived.Test.YtgkhhfojioepgaaTRStep
import Derived.Maps.AppendAt
namespace Go.Proofs.Ytgkhhfojioepgaa
open Go.RowKit
set_option linter.unusedSimpArgs false
set_option linter.unusedVariables false

set_option maxRecDepth 100000 in
set_option maxHeartbeats 3200000 in
theorem rwaysL_some (nm : ByteArray) (sp st : Int) (b off sc : Nat) (ss : List Smp) (lo : Option Addr) (lc : Nat) (ls : List LapV) (to_ : Option Addr) (tc : Nat) (ts : List ByteArray) (hl : (ss.length : Int) ≤ 20000) (w : World) (hs : SmpsAt w (some ⟨b, off, none⟩) ss) (hp : ∀ x ∈ ss, inPlane x) :
    Calls Try.prog 110 #[.agg #[.string nm, .int .i64 sp, .int .i64 st, .slice (some ⟨b, off, none⟩) ss.length sc, .slice lo ls.length lc, .slice to_ ts.length tc]] w fun x w' => (∃ v, x = .returned v ∧ w'.ownsRow (w.heap.size + 1) 3 1 v ss.length (wayVs ss ss.length)) ∧ w.grownBy w' none := by
  obtain ⟨i0, hi, hz0, hz1, hz2⟩ := info_parts info_int
  have HS := Lib.hid hs; have HP := Lib.hid hp
  clear hs hp
  go_enter Try.func110, Try.ntmps110
  go_wp2_with fail
  go_loopw [3, 4, 10] (fun lv sv iv wr => ∃ (k : Nat) (v : Value) (sm : Int), k ≤ ss.length ∧ v = lv ∧ sv = .int .i64 sm ∧ iv = .int .i64 k ∧ Hid (sm = sumTo ss k) ∧ Hid (w.grownBy wr none) ∧ Hid (wr.cell? ⟨w.heap.size, 3, none⟩ = some (.slice (some ⟨b, off, none⟩) ss.length sc)) ∧ Hid (wr.ownsRow (w.heap.size + 1) 3 1 v k (wayVs ss k)) ∧ Hid (w.heap.size + 1 ≤ wr.heap.size))
    (fun _ _ iv _ => ss.length - (intOf iv).toNat)
  case atStart => exact ⟨0, _, 0, Nat.zero_le _, rfl, rfl, rfl, rfl, World.grownBy_alloc _ _ _, by show _ = _; simp, World.ownsRow_nil _ _ _ _, by show _ ≤ _; simp⟩
  case round =>
    obtain ⟨k, v, s0, hk, rfl, rfl, rfl, hs0, hG, hbx, hown, hsz⟩ := hrel
    have b3 := hbx.out
    by_cases hlt : k < ss.length
    · obtain ⟨c0, c1, c2, c3, c4, c5, c6⟩ := (HS.out.grown hG.out).cells _ rfl k hlt
      simp only at c0 c1 c2 c3 c4 c5 c6
      have hX : ss[k] = smpD ss k := (smpD_at hlt).symm
      have hxp : inPlane (smpD ss k) := smpD_plane HP.out k
      rw [hX] at c0 c1 c2 c3 c4 c5 c6
      have HLT := Lib.hid hlt
      by_cases hk0 : k = 0
      · have HSM : Hid (wayN ss k = s0) := by show _ = _; rw [hs0.out, hk0]; rfl
        have e2 : decide (0 < (k : Int)) = false := by simp; omega
        have e3 : decide (0 < k) = false := by simp; omega
        have HK := Lib.hid hk0
        clear hk0 hX hxp hs0
        generalize smpD ss k = x at *
        obtain ⟨xt, xx, xy, xz, xp, xq, xs⟩ := x
        simp only at c0 c1 c2 c3 c4 c5 c6
        have OWN : Hid ((wr.alloc (.cells #[.int .i64 xt, .int .i64 xx, .int .i64 xy, .int .i64 xz, .int .i64 xp, .int .i64 xq, .int .i64 xs] 28)).ownsRow (w.heap.size + 1) 3 1 v k (wayVs ss k)) := hown.out.alloc _
        have SZ := hsz
        have GW : Hid (w.grownBy (wr.alloc (.cells #[.int .i64 xt, .int .i64 xx, .int .i64 xy, .int .i64 xz, .int .i64 xp, .int .i64 xq, .int .i64 xs] 28)) none) := grown_trans hG.out (World.grownBy_alloc _ _ _)
        have BX : Hid ((wr.alloc (.cells #[.int .i64 xt, .int .i64 xx, .int .i64 xy, .int .i64 xz, .int .i64 xp, .int .i64 xq, .int .i64 xs] 28)).cell? ⟨w.heap.size, 3, none⟩ = some (.slice (some ⟨b, off, none⟩) ss.length sc)) := grown_cell (World.grownBy_alloc _ _ _) hbx.out
        have hkb : k ≤ 20000 := by omega
        have HCN : Hid (∀ j u, [Value.int .i64 s0][j]? = some u → ((wr.alloc (.cells #[.int .i64 xt, .int .i64 xx, .int .i64 xy, .int .i64 xz, .int .i64 xp, .int .i64 xq, .int .i64 xs] 28)).alloc (.cells #[.int .i64 s0] 3)).cell? ((⟨wr.heap.size + 1, 0, none⟩ : Addr).add j) = some u) := by
          have q := cell_one_new (wr.alloc (.cells #[.int .i64 xt, .int .i64 xx, .int .i64 xy, .int .i64 xz, .int .i64 xp, .int .i64 xq, .int .i64 xs] 28)) (.int .i64 s0) 3
          rw [World.size_alloc] at q; exact q
        clear hown hG hbx
        go_wp2_with (at_builtin; refine wpList_append_own _ rfl _ _ 48 rfl (w.heap.size + 1) 3 i0 (.int .i64 0) 1 8 Try.underlying48 hi hz0 hz1 hz2 rfl (by decide) _ _ _ rfl (OWN.out.alloc _) ⟨wr.heap.size + 1, 0, none⟩ 1 1 [.int .i64 s0] rfl rfl (HCN.out) (by intro u hu; simp at hu; subst hu; rfl) (by unfold maxLen; omega) (by omega) (by have := SZ.out; simp at *; omega) ?_; intro v' w2 hown' hgrow' _)
        have hlt2 := OWN.out.lt
        have GN : w.grownBy w2 none := grown_own GW.out hgrow' (fun g e => by have := (hlt2 g e).1; omega)
        have hbx : w2.cell? ⟨w.heap.size, 3, none⟩ = some (.slice (some ⟨b, off, none⟩) ss.length sc) := by
          rw [World.cell?_of_block (a := ⟨w.heap.size, 3, none⟩) (hgrow'.block w.heap.size (by have := SZ.out; simp; omega) (fun e => by have := (hlt2 _ e.symm).1; omega))]
          exact grown_cell (World.grownBy_alloc _ _ _) BX.out
        have HO2 : Hid (w2.ownsRow (w.heap.size + 1) 3 1 v' (k + 1) (wayVs ss (k + 1))) := by
          show World.ownsRow _ _ _ _ _ _ _; rw [wayVs_succ, HSM.out]; exact hown'
        have HB2 := Lib.hid hbx; have HG2 := Lib.hid GN
        have HSZ2 : Hid (w.heap.size + 1 ≤ w2.heap.size) := by show _ ≤ _; have h1 := hgrow'.size; have h2 := SZ.out; simp at h1; omega
        clear hbx GN hown' hgrow' hlt2
        go_wp2_with fail
        go_roundw
        case rel => exact ⟨k + 1, _, _, by have := HLT.out; omega, rfl, rfl, by go_num, by show _ = _; rw [← HSM.out]; rfl, HG2.out, HB2.out, HO2.out, HSZ2.out⟩
        case measure => have := HLT.out; simp [intOf]; omega
      · obtain ⟨i, hki⟩ : ∃ i, k = i + 1 := ⟨k - 1, by omega⟩
        have hi1 : i < ss.length := by omega
        obtain ⟨d0, d1, d2, d3, d4, d5, d6⟩ := (HS.out.grown hG.out).cells _ rfl i hi1
        simp only at d0 d1 d2 d3 d4 d5 d6
        have hpp : inPlane (smpD ss i) := smpD_plane HP.out i
        rw [← smpD_at hi1] at d0 d1 d2 d3 d4 d5 d6
        obtain ⟨n0, hn0⟩ : ∃ n, stepW (smpD ss i) (smpD ss k) = n := ⟨_, rfl⟩
        have hb1 := wayN_bd HP.out i
        have hb2 := stepW_bd hpp hxp
        have hs1 : s0 = wayN ss i := by rw [hs0.out, hki]; rfl
        have hsmk : wayN ss k = s0 + n0 := by rw [hs1, ← hn0, hki]; rfl
        rw [← hs1] at hb1
        rw [hn0] at hb2
        obtain ⟨sm, hsm⟩ : ∃ sm, s0 + n0 = sm := ⟨_, rfl⟩
        have rs : IntKind.i64.wrap (s0 + n0) = sm := by rw [hsm]; exact IntWalk.i64_in _ (by omega)
        have HSM : Hid (wayN ss k = sm) := hsmk.trans hsm
        have HN0 := Lib.hid hn0
        have e2 : decide (0 < (k : Int)) = true := by simp; omega
        have e3 : 0 < k := by omega
        have ea : ((k : Int) - 1).toNat = i := by omega
        have pa : (0 : Int) ≤ (k : Int) - 1 := by omega
        have pb : (1 : Int) ≤ (k : Int) := by omega
        have ba : (k : Int) - 1 < (ss.length : Int) := by omega
        have ra : IntKind.i64.wrap ((k : Int) - 1) = (k : Int) - 1 := by rw [IntKind.wrap_i64]; omega
        have HKI := Lib.hid hki; have HPP := Lib.hid hpp; have HXP := Lib.hid hxp
        have hkb : k ≤ 20000 := by omega
        clear hk0 hsm hX hxp hs0 hki hpp hn0 hb1 hb2 hs1 hsmk
        generalize smpD ss k = x at *
        generalize smpD ss i = p at *
        obtain ⟨xt, xx, xy, xz, xp, xq, xs⟩ := x
        obtain ⟨pt, px, py, pz, pp, pq, ps⟩ := p
        simp only at c0 c1 c2 c3 c4 c5 c6 d0 d1 d2 d3 d4 d5 d6
        have B0 := World.grownBy_alloc wr (.cells #[.int .i64 xt, .int .i64 xx, .int .i64 xy, .int .i64 xz, .int .i64 xp, .int .i64 xq, .int .i64 xs] 28) none
        have hS0 : (World.grownBy w (wr.alloc (.cells #[.int .i64 xt, .int .i64 xx, .int .i64 xy, .int .i64 xz, .int .i64 xp, .int .i64 xq, .int .i64 xs] 28)) none ∧ World.cell? (wr.alloc (.cells #[.int .i64 xt, .int .i64 xx, .int .i64 xy, .int .i64 xz, .int .i64 xp, .int .i64 xq, .int .i64 xs] 28)) ⟨w.heap.size, 3, none⟩ = some (.slice (some ⟨b, off, none⟩) ss.length sc) ∧ World.cell? (wr.alloc (.cells #[.int .i64 xt, .int .i64 xx, .int .i64 xy, .int .i64 xz, .int .i64 xp, .int .i64 xq, .int .i64 xs] 28)) ⟨wr.heap.size, 0, none⟩ = some (.int .i64 xt) ∧ World.cell? (wr.alloc (.cells #[.int .i64 xt, .int .i64 xx, .int .i64 xy, .int .i64 xz, .int .i64 xp, .int .i64 xq, .int .i64 xs] 28)) ⟨wr.heap.size, 1, none⟩ = some (.int .i64 xx) ∧ World.cell? (wr.alloc (.cells #[.int .i64 xt, .int .i64 xx, .int .i64 xy, .int .i64 xz, .int .i64 xp, .int .i64 xq, .int .i64 xs] 28)) ⟨wr.heap.size, 2, none⟩ = some (.int .i64 xy) ∧ World.cell? (wr.alloc (.cells #[.int .i64 xt, .int .i64 xx, .int .i64 xy, .int .i64 xz, .int .i64 xp, .int .i64 xq, .int .i64 xs] 28)) ⟨wr.heap.size, 3, none⟩ = some (.int .i64 xz) ∧ World.cell? (wr.alloc (.cells #[.int .i64 xt, .int .i64 xx, .int .i64 xy, .int .i64 xz, .int .i64 xp, .int .i64 xq, .int .i64 xs] 28)) ⟨wr.heap.size, 4, none⟩ = some (.int .i64 xp) ∧ World.cell? (wr.alloc (.cells #[.int .i64 xt, .int .i64 xx, .int .i64 xy, .int .i64 xz, .int .i64 xp, .int .i64 xq, .int .i64 xs] 28)) ⟨wr.heap.size, 5, none⟩ = some (.int .i64 xq) ∧ World.cell? (wr.alloc (.cells #[.int .i64 xt, .int .i64 xx, .int .i64 xy, .int .i64 xz, .int .i64 xp, .int .i64 xq, .int .i64 xs] 28)) ⟨wr.heap.size, 6, none⟩ = some (.int .i64 xs) ∧ World.cell? (wr.alloc (.cells #[.int .i64 xt, .int .i64 xx, .int .i64 xy, .int .i64 xz, .int .i64 xp, .int .i64 xq, .int .i64 xs] 28)) ⟨b, off + i * 7, none⟩ = some (.int .i64 pt) ∧ World.cell? (wr.alloc (.cells #[.int .i64 xt, .int .i64 xx, .int .i64 xy, .int .i64 xz, .int .i64 xp, .int .i64 xq, .int .i64 xs] 28)) ⟨b, off + i * 7 + 1, none⟩ = some (.int .i64 px) ∧ World.cell? (wr.alloc (.cells #[.int .i64 xt, .int .i64 xx, .int .i64 xy, .int .i64 xz, .int .i64 xp, .int .i64 xq, .int .i64 xs] 28)) ⟨b, off + i * 7 + 2, none⟩ = some (.int .i64 py) ∧ World.cell? (wr.alloc (.cells #[.int .i64 xt, .int .i64 xx, .int .i64 xy, .int .i64 xz, .int .i64 xp, .int .i64 xq, .int .i64 xs] 28)) ⟨b, off + i * 7 + 3, none⟩ = some (.int .i64 pz) ∧ World.cell? (wr.alloc (.cells #[.int .i64 xt, .int .i64 xx, .int .i64 xy, .int .i64 xz, .int .i64 xp, .int .i64 xq, .int .i64 xs] 28)) ⟨b, off + i * 7 + 4, none⟩ = some (.int .i64 pp) ∧ World.cell? (wr.alloc (.cells #[.int .i64 xt, .int .i64 xx, .int .i64 xy, .int .i64 xz, .int .i64 xp, .int .i64 xq, .int .i64 xs] 28)) ⟨b, off + i * 7 + 5, none⟩ = some (.int .i64 pq) ∧ World.cell? (wr.alloc (.cells #[.int .i64 xt, .int .i64 xx, .int .i64 xy, .int .i64 xz, .int .i64 xp, .int .i64 xq, .int .i64 xs] 28)) ⟨b, off + i * 7 + 6, none⟩ = some (.int .i64 ps) ∧ (wr.alloc (.cells #[.int .i64 xt, .int .i64 xx, .int .i64 xy, .int .i64 xz, .int .i64 xp, .int .i64 xq, .int .i64 xs] 28)).grownBy (wr.alloc (.cells #[.int .i64 xt, .int .i64 xx, .int .i64 xy, .int .i64 xz, .int .i64 xp, .int .i64 xq, .int .i64 xs] 28)) none) := ⟨grown_trans hG.out B0, grown_cell B0 b3, by simp, by simp, by simp, by simp, by simp, by simp, by simp, grown_cell B0 d0, grown_cell B0 d1, grown_cell B0 d2, grown_cell B0 d3, grown_cell B0 d4, grown_cell B0 d5, grown_cell B0 d6, grown_refl _ _⟩
        have hstep : ∀ W W' : World, (World.grownBy w W none ∧ World.cell? W ⟨w.heap.size, 3, none⟩ = some (.slice (some ⟨b, off, none⟩) ss.length sc) ∧ World.cell? W ⟨wr.heap.size, 0, none⟩ = some (.int .i64 xt) ∧ World.cell? W ⟨wr.heap.size, 1, none⟩ = some (.int .i64 xx) ∧ World.cell? W ⟨wr.heap.size, 2, none⟩ = some (.int .i64 xy) ∧ World.cell? W ⟨wr.heap.size, 3, none⟩ = some (.int .i64 xz) ∧ World.cell? W ⟨wr.heap.size, 4, none⟩ = some (.int .i64 xp) ∧ World.cell? W ⟨wr.heap.size, 5, none⟩ = some (.int .i64 xq) ∧ World.cell? W ⟨wr.heap.size, 6, none⟩ = some (.int .i64 xs) ∧ World.cell? W ⟨b, off + i * 7, none⟩ = some (.int .i64 pt) ∧ World.cell? W ⟨b, off + i * 7 + 1, none⟩ = some (.int .i64 px) ∧ World.cell? W ⟨b, off + i * 7 + 2, none⟩ = some (.int .i64 py) ∧ World.cell? W ⟨b, off + i * 7 + 3, none⟩ = some (.int .i64 pz) ∧ World.cell? W ⟨b, off + i * 7 + 4, none⟩ = some (.int .i64 pp) ∧ World.cell? W ⟨b, off + i * 7 + 5, none⟩ = some (.int .i64 pq) ∧ World.cell? W ⟨b, off + i * 7 + 6, none⟩ = some (.int .i64 ps) ∧ (wr.alloc (.cells #[.int .i64 xt, .int .i64 xx, .int .i64 xy, .int .i64 xz, .int .i64 xp, .int .i64 xq, .int .i64 xs] 28)).grownBy W none) → W.grownBy W' none → (World.grownBy w W' none ∧ World.cell? W' ⟨w.heap.size, 3, none⟩ = some (.slice (some ⟨b, off, none⟩) ss.length sc) ∧ World.cell? W' ⟨wr.heap.size, 0, none⟩ = some (.int .i64 xt) ∧ World.cell? W' ⟨wr.heap.size, 1, none⟩ = some (.int .i64 xx) ∧ World.cell? W' ⟨wr.heap.size, 2, none⟩ = some (.int .i64 xy) ∧ World.cell? W' ⟨wr.heap.size, 3, none⟩ = some (.int .i64 xz) ∧ World.cell? W' ⟨wr.heap.size, 4, none⟩ = some (.int .i64 xp) ∧ World.cell? W' ⟨wr.heap.size, 5, none⟩ = some (.int .i64 xq) ∧ World.cell? W' ⟨wr.heap.size, 6, none⟩ = some (.int .i64 xs) ∧ World.cell? W' ⟨b, off + i * 7, none⟩ = some (.int .i64 pt) ∧ World.cell? W' ⟨b, off + i * 7 + 1, none⟩ = some (.int .i64 px) ∧ World.cell? W' ⟨b, off + i * 7 + 2, none⟩ = some (.int .i64 py) ∧ World.cell? W' ⟨b, off + i * 7 + 3, none⟩ = some (.int .i64 pz) ∧ World.cell? W' ⟨b, off + i * 7 + 4, none⟩ = some (.int .i64 pp) ∧ World.cell? W' ⟨b, off + i * 7 + 5, none⟩ = some (.int .i64 pq) ∧ World.cell? W' ⟨b, off + i * 7 + 6, none⟩ = some (.int .i64 ps) ∧ (wr.alloc (.cells #[.int .i64 xt, .int .i64 xx, .int .i64 xy, .int .i64 xz, .int .i64 xp, .int .i64 xq, .int .i64 xs] 28)).grownBy W' none) := fun W W' h g => ⟨grown_trans h.1 g, grown_cell g h.2.1, grown_cell g h.2.2.1, grown_cell g h.2.2.2.1, grown_cell g h.2.2.2.2.1, grown_cell g h.2.2.2.2.2.1, grown_cell g h.2.2.2.2.2.2.1, grown_cell g h.2.2.2.2.2.2.2.1, grown_cell g h.2.2.2.2.2.2.2.2.1, grown_cell g h.2.2.2.2.2.2.2.2.2.1, grown_cell g h.2.2.2.2.2.2.2.2.2.2.1, grown_cell g h.2.2.2.2.2.2.2.2.2.2.2.1, grown_cell g h.2.2.2.2.2.2.2.2.2.2.2.2.1, grown_cell g h.2.2.2.2.2.2.2.2.2.2.2.2.2.1, grown_cell g h.2.2.2.2.2.2.2.2.2.2.2.2.2.2.1, grown_cell g h.2.2.2.2.2.2.2.2.2.2.2.2.2.2.2.1, grown_trans h.2.2.2.2.2.2.2.2.2.2.2.2.2.2.2.2 g⟩
        have hSd : (World.grownBy w (wr.alloc (.cells #[.int .i64 xt, .int .i64 xx, .int .i64 xy, .int .i64 xz, .int .i64 xp, .int .i64 xq, .int .i64 xs] 28)).drew none ∧ World.cell? (wr.alloc (.cells #[.int .i64 xt, .int .i64 xx, .int .i64 xy, .int .i64 xz, .int .i64 xp, .int .i64 xq, .int .i64 xs] 28)).drew ⟨w.heap.size, 3, none⟩ = some (.slice (some ⟨b, off, none⟩) ss.length sc) ∧ World.cell? (wr.alloc (.cells #[.int .i64 xt, .int .i64 xx, .int .i64 xy, .int .i64 xz, .int .i64 xp, .int .i64 xq, .int .i64 xs] 28)).drew ⟨wr.heap.size, 0, none⟩ = some (.int .i64 xt) ∧ World.cell? (wr.alloc (.cells #[.int .i64 xt, .int .i64 xx, .int .i64 xy, .int .i64 xz, .int .i64 xp, .int .i64 xq, .int .i64 xs] 28)).drew ⟨wr.heap.size, 1, none⟩ = some (.int .i64 xx) ∧ World.cell? (wr.alloc (.cells #[.int .i64 xt, .int .i64 xx, .int .i64 xy, .int .i64 xz, .int .i64 xp, .int .i64 xq, .int .i64 xs] 28)).drew ⟨wr.heap.size, 2, none⟩ = some (.int .i64 xy) ∧ World.cell? (wr.alloc (.cells #[.int .i64 xt, .int .i64 xx, .int .i64 xy, .int .i64 xz, .int .i64 xp, .int .i64 xq, .int .i64 xs] 28)).drew ⟨wr.heap.size, 3, none⟩ = some (.int .i64 xz) ∧ World.cell? (wr.alloc (.cells #[.int .i64 xt, .int .i64 xx, .int .i64 xy, .int .i64 xz, .int .i64 xp, .int .i64 xq, .int .i64 xs] 28)).drew ⟨wr.heap.size, 4, none⟩ = some (.int .i64 xp) ∧ World.cell? (wr.alloc (.cells #[.int .i64 xt, .int .i64 xx, .int .i64 xy, .int .i64 xz, .int .i64 xp, .int .i64 xq, .int .i64 xs] 28)).drew ⟨wr.heap.size, 5, none⟩ = some (.int .i64 xq) ∧ World.cell? (wr.alloc (.cells #[.int .i64 xt, .int .i64 xx, .int .i64 xy, .int .i64 xz, .int .i64 xp, .int .i64 xq, .int .i64 xs] 28)).drew ⟨wr.heap.size, 6, none⟩ = some (.int .i64 xs) ∧ World.cell? (wr.alloc (.cells #[.int .i64 xt, .int .i64 xx, .int .i64 xy, .int .i64 xz, .int .i64 xp, .int .i64 xq, .int .i64 xs] 28)).drew ⟨b, off + i * 7, none⟩ = some (.int .i64 pt) ∧ World.cell? (wr.alloc (.cells #[.int .i64 xt, .int .i64 xx, .int .i64 xy, .int .i64 xz, .int .i64 xp, .int .i64 xq, .int .i64 xs] 28)).drew ⟨b, off + i * 7 + 1, none⟩ = some (.int .i64 px) ∧ World.cell? (wr.alloc (.cells #[.int .i64 xt, .int .i64 xx, .int .i64 xy, .int .i64 xz, .int .i64 xp, .int .i64 xq, .int .i64 xs] 28)).drew ⟨b, off + i * 7 + 2, none⟩ = some (.int .i64 py) ∧ World.cell? (wr.alloc (.cells #[.int .i64 xt, .int .i64 xx, .int .i64 xy, .int .i64 xz, .int .i64 xp, .int .i64 xq, .int .i64 xs] 28)).drew ⟨b, off + i * 7 + 3, none⟩ = some (.int .i64 pz) ∧ World.cell? (wr.alloc (.cells #[.int .i64 xt, .int .i64 xx, .int .i64 xy, .int .i64 xz, .int .i64 xp, .int .i64 xq, .int .i64 xs] 28)).drew ⟨b, off + i * 7 + 4, none⟩ = some (.int .i64 pp) ∧ World.cell? (wr.alloc (.cells #[.int .i64 xt, .int .i64 xx, .int .i64 xy, .int .i64 xz, .int .i64 xp, .int .i64 xq, .int .i64 xs] 28)).drew ⟨b, off + i * 7 + 5, none⟩ = some (.int .i64 pq) ∧ World.cell? (wr.alloc (.cells #[.int .i64 xt, .int .i64 xx, .int .i64 xy, .int .i64 xz, .int .i64 xp, .int .i64 xq, .int .i64 xs] 28)).drew ⟨b, off + i * 7 + 6, none⟩ = some (.int .i64 ps) ∧ (wr.alloc (.cells #[.int .i64 xt, .int .i64 xx, .int .i64 xy, .int .i64 xz, .int .i64 xp, .int .i64 xq, .int .i64 xs] 28)).grownBy (wr.alloc (.cells #[.int .i64 xt, .int .i64 xx, .int .i64 xy, .int .i64 xz, .int .i64 xp, .int .i64 xq, .int .i64 xs] 28)).drew none) := hstep _ _ hS0 (grown_drewN _ _ 1)
        have HSTEP := Lib.hid hstep; have HSD := Lib.hid hSd; have HI := Lib.hid hi; have HZ0 := Lib.hid hz0; have HZ1 := Lib.hid hz1; have HZ2 := Lib.hid hz2
        clear hS0 B0 hstep hSd hi hz0 hz1 hz2
        go_wp2_with fail
        clear d0 d1 d2 d3 d4 d5 d6 c0 c1 c2 c3 c4 c5 c6
        go_region_held3 (fun W => (World.grownBy w W none ∧ World.cell? W ⟨w.heap.size, 3, none⟩ = some (.slice (some ⟨b, off, none⟩) ss.length sc) ∧ World.cell? W ⟨wr.heap.size, 0, none⟩ = some (.int .i64 xt) ∧ World.cell? W ⟨wr.heap.size, 1, none⟩ = some (.int .i64 xx) ∧ World.cell? W ⟨wr.heap.size, 2, none⟩ = some (.int .i64 xy) ∧ World.cell? W ⟨wr.heap.size, 3, none⟩ = some (.int .i64 xz) ∧ World.cell? W ⟨wr.heap.size, 4, none⟩ = some (.int .i64 xp) ∧ World.cell? W ⟨wr.heap.size, 5, none⟩ = some (.int .i64 xq) ∧ World.cell? W ⟨wr.heap.size, 6, none⟩ = some (.int .i64 xs) ∧ World.cell? W ⟨b, off + i * 7, none⟩ = some (.int .i64 pt) ∧ World.cell? W ⟨b, off + i * 7 + 1, none⟩ = some (.int .i64 px) ∧ World.cell? W ⟨b, off + i * 7 + 2, none⟩ = some (.int .i64 py) ∧ World.cell? W ⟨b, off + i * 7 + 3, none⟩ = some (.int .i64 pz) ∧ World.cell? W ⟨b, off + i * 7 + 4, none⟩ = some (.int .i64 pp) ∧ World.cell? W ⟨b, off + i * 7 + 5, none⟩ = some (.int .i64 pq) ∧ World.cell? W ⟨b, off + i * 7 + 6, none⟩ = some (.int .i64 ps) ∧ (wr.alloc (.cells #[.int .i64 xt, .int .i64 xx, .int .i64 xy, .int .i64 xz, .int .i64 xp, .int .i64 xq, .int .i64 xs] 28)).grownBy W none)) (first | exact HSD.out | (refine HSTEP.out _ _ ?_ (by assumption) <;> assumption)) (first
          | (go_at_call 75; refine (length_is ⟨pt, px, py, pz, pp, pq, ps⟩ ⟨xt, xx, xy, xz, xp, xq, xs⟩ HPP.out HXP.out _ HN0).mono ?_; rintro x w7 ⟨rfl, hg7⟩))
        all_goals
          rename_i hfin
          obtain ⟨w9, hw9⟩ : ∃ w9, w9 = w7 := ⟨_, rfl⟩
          subst hw9
          have OWN : Hid (w9.ownsRow (w.heap.size + 1) 3 1 v k (wayVs ss k)) := (hown.out.alloc _).kept hfin.2.2.2.2.2.2.2.2.2.2.2.2.2.2.2.2 (by by_cases h : v.ownBlock = none <;> simp [h])
          have SZ : Hid (w.heap.size + 1 ≤ w9.heap.size) := by show _ ≤ _; have h1 := hsz.out; have h2 := hfin.2.2.2.2.2.2.2.2.2.2.2.2.2.2.2.2.size; simp at h2; omega
          have GW : Hid (w.grownBy w9 none) := hfin.1
          have BX : Hid (w9.cell? ⟨w.heap.size, 3, none⟩ = some (.slice (some ⟨b, off, none⟩) ss.length sc)) := hfin.2.1
          have HCN : Hid (∀ j u, [Value.int .i64 sm][j]? = some u → (w9.alloc (.cells #[.int .i64 sm] 3)).cell? ((⟨w9.heap.size, 0, none⟩ : Addr).add j) = some u) := cell_one_new w9 (.int .i64 sm) 3
          have hi := HI.out; have hz0 := HZ0.out; have hz1 := HZ1.out; have hz2 := HZ2.out
          clear hown hsz hG hbx hfin HSTEP HSD b3
          go_wp2_with (at_builtin; refine wpList_append_own _ rfl _ _ 48 rfl (w.heap.size + 1) 3 i0 (.int .i64 0) 1 8 Try.underlying48 hi hz0 hz1 hz2 rfl (by decide) _ _ _ rfl (OWN.out.alloc _) ⟨w9.heap.size, 0, none⟩ 1 1 [.int .i64 sm] rfl rfl (HCN.out) (by intro u hu; simp at hu; subst hu; rfl) (by unfold maxLen; omega) (by omega) (by have := SZ.out; simp at *; omega) ?_; intro v' w2 hown' hgrow' _)
          have hlt2 := OWN.out.lt
          have GN : w.grownBy w2 none := grown_own GW.out hgrow' (fun g e => by have := (hlt2 g e).1; omega)
          have hbx : w2.cell? ⟨w.heap.size, 3, none⟩ = some (.slice (some ⟨b, off, none⟩) ss.length sc) := by
            rw [World.cell?_of_block (a := ⟨w.heap.size, 3, none⟩) (hgrow'.block w.heap.size (by have := SZ.out; simp; omega) (fun e => by have := (hlt2 _ e.symm).1; omega))]
            exact grown_cell (World.grownBy_alloc _ _ _) BX.out
          have HO2 : Hid (w2.ownsRow (w.heap.size + 1) 3 1 v' (k + 1) (wayVs ss (k + 1))) := by
            show World.ownsRow _ _ _ _ _ _ _; rw [wayVs_succ, HSM.out]; exact hown'
          have HB2 := Lib.hid hbx; have HG2 := Lib.hid GN
          have HSZ2 : Hid (w.heap.size + 1 ≤ w2.heap.size) := by show _ ≤ _; have h1 := hgrow'.size; have h2 := SZ.out; simp at h1; omega
          clear hbx GN hown' hgrow' hlt2
          go_wp2_with fail
          go_roundw
          case rel => exact ⟨k + 1, _, _, by have := HLT.out; omega, rfl, rfl, by go_num, by show _ = _; rw [← HSM.out]; rfl, HG2.out, HB2.out, HO2.out, HSZ2.out⟩
          case measure => have := HLT.out; simp [intOf]; omega
    · have hkn : k = ss.length := by omega
      have HK := Lib.hid hkn
      clear hkn
      go_wp2_with fail
      go_ret
      exact ⟨⟨_, rfl, by rw [HK.out] at hown; exact hown.out⟩, hG.out⟩

end Go.Proofs.Ytgkhhfojioepgaa
