/- The contract of the reference's Climb, where nothing is wrong, for two samples and more. -/
import Derived.Test.YtkifmjohcmjeeaaTRClimbS
namespace Go.Proofs.Ytkifmjohcmjeeaa
open Go.RowKit

theorem same_start (th z : Int) : Same2 th z ⟨Ln.first z, Ln.first z, Ln.first z⟩ ⟨⟨-z, 0⟩, ⟨z, 0⟩, ⟨0, 0⟩⟩ := by
  refine ⟨?_, ?_, ?_, ?_, ?_, ?_⟩
  · simp [Ln.key, Ln.worth, Ln.first]
  · simp [Ln.key, Ln.worth, Ln.first]
  · simp [Ln.key, Ln.worth, Ln.first]
  · simp [Ln.key, Ln.worth, Ln.first]
  · simp [Ln.ok, Ln.first]
  · simp [Ln.ok, Ln.first]

theorem far2 {w : World} {g g' i : Nat} {v v0 v1 : Value} (h : w.cell? ⟨g, i, none⟩ = some v) (ne : g ≠ g') : ((w.setCell ⟨g', 0, none⟩ v0).setCell ⟨g', 1, none⟩ v1).cell? ⟨g, i, none⟩ = some v := by
  rw [World.cell?_setCell_other, World.cell?_setCell_other]
  · exact h
  all_goals (intro e; injection e with e1 _ _; omega)

/-- A round of the reference, in its parts. -/
theorem rnext_parts (th z : Int) (a f : Wt) (l : Wt) : ∃ (q1 q2 q3 : Bool) (L : Wt), better2 ⟨f.sum - z, f.turns⟩ ⟨a.sum + z, a.turns⟩ = q1 ∧ L = (if q1 then ⟨f.sum - z, f.turns⟩ else ⟨a.sum + z, a.turns⟩) ∧
    better2 ⟨L.sum - th - z, L.turns + 1⟩ a = q2 ∧ better2 ⟨L.sum - th + z, L.turns + 1⟩ f = q3 ∧
    (RSt.next th ⟨a, f, l⟩ z).last = L ∧ (RSt.next th ⟨a, f, l⟩ z).rising = (if q2 then ⟨L.sum - th - z, L.turns + 1⟩ else a) ∧ (RSt.next th ⟨a, f, l⟩ z).falling = (if q3 then ⟨L.sum - th + z, L.turns + 1⟩ else f) :=
  ⟨_, _, _, _, rfl, rfl, rfl, rfl, rfl, rfl, rfl⟩

set_option maxRecDepth 100000 in
set_option maxHeartbeats 12800000 in
theorem rclimb_two (nm : ByteArray) (sp st : Int) (b off sc : Nat) (ss : List Smp) (lo : Option Addr) (lc : Nat) (ls : List LapV) (to_ : Option Addr) (tc : Nat) (ts : List ByteArray) (th : Int) (t0 : 0 ≤ th) (t1 : th ≤ 200000) (hl : (ss.length : Int) ≤ 20000) (h2 : 2 ≤ ss.length) (hcap : ss.length ≤ sc) (w : World)
    (HA : Hid (ActAt w ⟨nm, sp, st, some ⟨b, off, none⟩, sc, ss, lo, lc, ls, to_, tc, ts⟩)) (HCE : Hid (chkE ⟨nm, sp, st, some ⟨b, off, none⟩, sc, ss, lo, lc, ls, to_, tc, ts⟩ = 0)) (HZ : Hid (∀ k, -100000 ≤ (smpD ss k).z ∧ (smpD ss k).z ≤ 100000)) {r : Ln} (hr : Hid (climbL th ss = r)) :
    Calls Try.prog 56 #[.agg #[.string nm, .int .i64 sp, .int .i64 st, .slice (some ⟨b, off, none⟩) ss.length sc, .slice lo ls.length lc, .slice to_ ts.length tc], .int .i64 th] w fun x w' => x = .returned (.tuple #[.agg #[.int .i64 r.up, .int .i64 r.down, .int .i64 r.turns], .int .i64 0]) ∧ w.grownBy w' none := by
  have n1 : 1 ≤ ss.length := by omega
  have n2 : (1 : Int) ≤ (ss.length : Int) := by omega
  have n3 : (0 : Int) < (ss.length : Int) := by omega
  have n4 : 0 < ss.length := by omega
  have n5 : (ss.length : Int) ≤ (sc : Int) := by omega
  have n6 : ¬ sc = 1 := by omega
  have n8 : decide ((ss.length : Int) < 2) = false := by simp; omega
  have n9 : (2 : Int) ≤ (ss.length : Int) := by omega
  go_enter Try.func56, Try.ntmps56
  go_wp2_with fail
  refine (rcheck_any ⟨nm, sp, st, some ⟨b, off, none⟩, sc, ss, lo, lc, ls, to_, tc, ts⟩ _ (HA.out.grown (grown_trans (World.grownBy_alloc _ _ _) (World.grownBy_alloc _ _ _))) HCE).mono ?_; rintro e w1 ⟨rfl, hg1⟩
  have G1 : w.grownBy w1 none := grown_trans (grown_trans (World.grownBy_alloc w (.cells #[.string nm, .int .i64 sp, .int .i64 st, .slice (some ⟨b, off, none⟩) ss.length sc, .slice lo ls.length lc, .slice to_ ts.length tc] 55) none) (World.grownBy_alloc _ _ _)) hg1
  have b3 : w1.cell? ⟨w.heap.size, 3, none⟩ = some (.slice (some ⟨b, off, none⟩) ss.length sc) := grown_cell hg1 (by go_simp)
  have kz : w1.heap[w.heap.size + 1]? = some (.cells #[.int .i64 0, .int .i64 0, .int .i64 0] 75 (0, 0)) := by
    rw [hg1.block _ (by simp) (by simp)]
    have q := heap_alloc_new (w.alloc (.cells #[.string nm, .int .i64 sp, .int .i64 st, .slice (some ⟨b, off, none⟩) ss.length sc, .slice lo ls.length lc, .slice to_ ts.length tc] 55)) (.cells #[.int .i64 0, .int .i64 0, .int .i64 0] 75)
    simpa using q
  have HKZ := Lib.hid kz
  have hsz : w.heap.size + 2 ≤ w1.heap.size := by have := hg1.size; simp at this; omega
  clear hg1 kz
  go_wp2_with fail
  refine (routside_no _ _ _ t0 t1 _).mono ?_; rintro e w2 ⟨rfl, rfl⟩
  obtain ⟨e0, e1, e2, cz, e4, e5, e6⟩ := ((HA.out.grown G1).hs).cells _ rfl 0 n4
  clear e0 e1 e2 e4 e5 e6
  rw [← smpD_at n4] at cz
  obtain ⟨zf, hzf⟩ : ∃ z, (smpD ss 0).z = z := ⟨_, rfl⟩
  rw [hzf] at cz
  simp only [Nat.zero_mul, Nat.add_zero] at cz
  have HF0 := HZ.out 0
  rw [hzf] at HF0
  obtain ⟨zf0, zf1⟩ := HF0
  have GA : w1.grownBy (((w1.alloc (.cells #[.int .i64 (-zf), .int .i64 0] 118)).alloc (.cells #[.int .i64 zf, .int .i64 0] 118)).alloc (.cells #[.int .i64 0, .int .i64 0] 118)) none := grown_trans (grown_trans (World.grownBy_alloc _ _ _) (World.grownBy_alloc _ _ _)) (World.grownBy_alloc _ _ _)
  have b3a : (((w1.alloc (.cells #[.int .i64 (-zf), .int .i64 0] 118)).alloc (.cells #[.int .i64 zf, .int .i64 0] 118)).alloc (.cells #[.int .i64 0, .int .i64 0] 118)).cell? ⟨w.heap.size, 3, none⟩ = some (.slice (some ⟨b, off, none⟩) ss.length sc) := grown_cell GA b3
  have ca : (((w1.alloc (.cells #[.int .i64 (-zf), .int .i64 0] 118)).alloc (.cells #[.int .i64 zf, .int .i64 0] 118)).alloc (.cells #[.int .i64 0, .int .i64 0] 118)).heap[w1.heap.size]? = some (.cells #[.int .i64 (-zf), .int .i64 0] 118) := by
    rw [Below.heap_alloc _ _ _ (by simp; omega), Below.heap_alloc _ _ _ (by simp)]; exact heap_alloc_new w1 _
  have cb : (((w1.alloc (.cells #[.int .i64 (-zf), .int .i64 0] 118)).alloc (.cells #[.int .i64 zf, .int .i64 0] 118)).alloc (.cells #[.int .i64 0, .int .i64 0] 118)).heap[w1.heap.size + 1]? = some (.cells #[.int .i64 zf, .int .i64 0] 118) := by
    rw [Below.heap_alloc _ _ _ (by simp)]
    have q := heap_alloc_new (w1.alloc (.cells #[.int .i64 (-zf), .int .i64 0] 118)) (.cells #[.int .i64 zf, .int .i64 0] 118)
    simpa using q
  have cc : (((w1.alloc (.cells #[.int .i64 (-zf), .int .i64 0] 118)).alloc (.cells #[.int .i64 zf, .int .i64 0] 118)).alloc (.cells #[.int .i64 0, .int .i64 0] 118)).heap[w1.heap.size + 1 + 1]? = some (.cells #[.int .i64 0, .int .i64 0] 118) := by
    have q := heap_alloc_new ((w1.alloc (.cells #[.int .i64 (-zf), .int .i64 0] 118)).alloc (.cells #[.int .i64 zf, .int .i64 0] 118)) (.cells #[.int .i64 0, .int .i64 0] 118)
    simpa using q
  have HC0 : Hid (RcS w (some ⟨b, off, none⟩) ss.length sc (((w1.alloc (.cells #[.int .i64 (-zf), .int .i64 0] 118)).alloc (.cells #[.int .i64 zf, .int .i64 0] 118)).alloc (.cells #[.int .i64 0, .int .i64 0] 118)) w1.heap.size (w1.heap.size + 1) (w1.heap.size + 1 + 1) ⟨-zf, 0⟩ ⟨zf, 0⟩ ⟨0, 0⟩) :=
    ⟨grown_trans G1 GA, b3a, (GA.block _ (by omega) (by simp)).trans HKZ.out, ca, cb, cc, by omega, by omega, by omega, by omega, by omega, by omega⟩
  clear GA ca cb cc
  go_wp2_with fail
  generalize hmm : ss.length - 1 = m
  have hm1 : ss.length = m + 1 := by omega
  have HM1 := Lib.hid hm1
  have m20 : (m : Int) ≤ 20000 := by omega
  have HR0 : Hid ((climbS th ⟨Ln.first zf, Ln.first zf, Ln.first zf⟩ ((ss.drop 1).drop 0)).best = r) := by
    show _ = _
    rw [← hr.out]
    cases hss : ss with
    | nil => rw [hss] at n4; simp at n4
    | cons x0 rest =>
      have hx : (smpD ss 0).z = x0.z := by rw [hss]; rfl
      rw [hzf] at hx
      rw [hx]; rfl
  have hbd0 := line_first zf0 zf1
  have HBD : Hid ((Ln.first zf).bd ((0 : Nat) : Int) ∧ (Ln.first zf).bd ((0 : Nat) : Int) ∧ (Ln.first zf).bd ((0 : Nat) : Int)) := ⟨hbd0, hbd0, hbd0⟩
  have HZF := Lib.hid hzf
  clear hmm hm1 b3 b3a cz hzf hbd0 n1 n2 n3 n4 n5 n6 n8 n9 hcap
  go_loopw [49] (fun iv wr => ∃ (k : Nat) (s : St) (q : RSt), k ≤ m ∧ iv = .int .i64 k ∧ Hid (RcS w (some ⟨b, off, none⟩) ss.length sc wr w1.heap.size (w1.heap.size + 1) (w1.heap.size + 1 + 1) q.rising q.falling q.last) ∧ Hid (Same2 th zf s q) ∧ Hid ((climbS th s ((ss.drop 1).drop k)).best = r) ∧ Hid (s.best.bd k ∧ s.low.bd k ∧ s.high.bd k) ∧ Hid (0 < k → q.last = ⟨s.best.worth th, s.best.turns⟩ ∧ s.best.ok zf ∧ s.best.z = (smpD ss k).z))
    (fun iv _ => m - (intOf iv).toNat)
  case atStart => exact ⟨0, ⟨_, _, _⟩, ⟨⟨-zf, 0⟩, ⟨zf, 0⟩, ⟨0, 0⟩⟩, Nat.zero_le _, rfl, HC0.out, same_start th zf, HR0.out, HBD.out, fun h => absurd h (by omega)⟩
  case round =>
    obtain ⟨k, s, q, hk, rfl, hcs, hsm, hfin, hbd, hlast⟩ := hrel
    by_cases hlt : k < m
    · have hk1 : k + 1 < ss.length := by have := HM1.out; omega
      obtain ⟨c0, c1, c2, c3, c4, c5, c6⟩ := ((HA.out.grown hcs.out.g).hs).cells _ rfl (k + 1) hk1
      rw [← smpD_at hk1] at c0 c1 c2 c3 c4 c5 c6
      have had : off + (k + 1) * 7 = off + 7 + k * 7 := by omega
      rw [had] at c0 c1 c2 c3 c4 c5 c6
      obtain ⟨hz0, hz1⟩ := HZ.out (k + 1)
      have hdr : (ss.drop 1).drop k = smpD ss (k + 1) :: (ss.drop 1).drop (k + 1) := by
        rw [List.drop_drop, List.drop_drop, Nat.add_comm 1 k, Nat.add_comm 1 (k + 1), List.drop_eq_getElem_cons hk1, smpD_at hk1]
      have hfin2 := hfin.out
      rw [hdr] at hfin2
      simp only [climbS] at hfin2
      have hkk : (k : Int) + 1 ≤ 20000 := by have := HM1.out; omega
      have hkn : (k : Int) ≤ 20000 := by omega
      obtain ⟨bp, bq, bn, bm, bx, by_⟩ := bd_next (th := th) (s := s) hbd.out.2.1 hbd.out.2.2 hz0 hz1
      have hz9 : (smpD ss (k + 1)).z = (smpD ss (k + 1)).z := rfl
      have kr := key_bd hbd.out.2.1 hkn t0 t1 (how := -1) (.inr (.inl rfl))
      have kf := key_bd hbd.out.2.2 hkn t0 t1 (how := 1) (.inl rfl)
      have kb := key_bd bn hkk t0 t1 (how := 0) (.inr (.inr rfl))
      rw [key_0] at kb
      have er := hsm.out.hr; have ef := hsm.out.hf
      have sn := same_next hsm.out (smpD ss (k + 1)).z
      have nl := next_last hsm.out (smpD ss (k + 1)).z
      have bo := best_ok (th := th) hsm.out.ol hsm.out.oh (smpD ss (k + 1)).z
      have tl0 := hbd.out.2.1.t0; have tl1 := hbd.out.2.1.t1; have th0 := hbd.out.2.2.t0; have th1 := hbd.out.2.2.t1
      have tb0 := bn.t0; have tb1 := bn.t1
      obtain ⟨qr, qf, ql⟩ := q
      simp only at er ef
      obtain ⟨q1, q2, q3, L, h1, hL, h2', h3, l1, l2, l3⟩ := rnext_parts th (smpD ss (k + 1)).z qr qf ql
      have hq9 : RSt.next th ⟨qr, qf, ql⟩ (smpD ss (k + 1)).z = ⟨(RSt.next th ⟨qr, qf, ql⟩ (smpD ss (k + 1)).z).rising, (RSt.next th ⟨qr, qf, ql⟩ (smpD ss (k + 1)).z).falling, (RSt.next th ⟨qr, qf, ql⟩ (smpD ss (k + 1)).z).last⟩ := rfl
      rw [l1, l2, l3] at hq9
      have HN : Hid (Hid (Same2 th zf (s.next th (smpD ss (k + 1)).z) ⟨if q2 then ⟨L.sum - th - (smpD ss (k + 1)).z, L.turns + 1⟩ else qr, if q3 then ⟨L.sum - th + (smpD ss (k + 1)).z, L.turns + 1⟩ else qf, L⟩) ∧ Hid (L = ⟨(s.next th (smpD ss (k + 1)).z).best.worth th, (s.next th (smpD ss (k + 1)).z).best.turns⟩)) := by
        refine ⟨?_, ?_⟩
        · show Same2 _ _ _ _
          rw [hq9] at sn; exact sn
        · show _ = _
          rw [hq9] at nl; exact nl
      have HFIN := Lib.hid hfin2; have HBO := Lib.hid bo
      have hbd2 : Hid ((s.next th (smpD ss (k + 1)).z).best.bd ((k + 1 : Nat) : Int) ∧ (s.next th (smpD ss (k + 1)).z).low.bd ((k + 1 : Nat) : Int) ∧ (s.next th (smpD ss (k + 1)).z).high.bd ((k + 1 : Nat) : Int)) := ⟨by rw [Int.natCast_add]; exact bn, by rw [Int.natCast_add]; exact bx, by rw [Int.natCast_add]; exact by_⟩
      have hL0 : -20000000000 ≤ L.sum ∧ L.sum ≤ 20000000000 ∧ 0 ≤ L.turns ∧ L.turns ≤ 20000 := by
        have := HN.out.2.out
        rw [this]; simp only; omega
      rw [← show qr.sum = s.low.key th (-1) by rw [er]] at kr
      rw [← show qf.sum = s.high.key th 1 by rw [ef]] at kf
      rw [← show qr.turns = s.low.turns by rw [er]] at tl0 tl1
      rw [← show qf.turns = s.high.turns by rw [ef]] at th0 th1
      clear er ef sn nl bo bp bq bn bm bx by_ hfin2 hfin hdr had hbd hlast hsm hz9 kb tb0 tb1 l1 l2 l3 hq9
      simp only at hcs
      obtain ⟨ra, rt⟩ := qr
      obtain ⟨fa, ft⟩ := qf
      obtain ⟨la, lt⟩ := ql
      obtain ⟨Ls, Lt⟩ := L
      simp only at kr kf tl0 tl1 th0 th1 hL0 h1 h2' h3 hL
      obtain ⟨kr0, kr1⟩ := kr
      obtain ⟨kf0, kf1⟩ := kf
      obtain ⟨L0, L1, L2, L3⟩ := hL0
      generalize hsx : smpD ss (k + 1) = xx at *
      have HSX := Lib.hid hsx
      clear hsx
      obtain ⟨xt, xx, xy, z, xp, xq, xs⟩ := xx
      simp only at c0 c1 c2 c3 c4 c5 c6 hz0 hz1 h1 h2' h3 hL
      have H1 := Lib.hid h1; have H2 := Lib.hid h2'; have H3 := Lib.hid h3
      have tl2 : rt ≤ 20000 := by omega
      have th2 : ft ≤ 20000 := by omega
      clear h1 h2' h3 tl1 th1
      have hsw : w.heap.size + 1 < w1.heap.size := by omega
      have hsr : w1.heap.size + 1 + 1 < wr.heap.size := (Array.getElem?_eq_some_iff.1 hcs.out.c).1
      have KA : Hid (RcS w (some ⟨b, off, none⟩) ss.length sc (wr.alloc (.cells #[.int .i64 xt, .int .i64 xx, .int .i64 xy, .int .i64 z, .int .i64 xp, .int .i64 xq, .int .i64 xs] 79)) w1.heap.size (w1.heap.size + 1) (w1.heap.size + 1 + 1) ⟨ra, rt⟩ ⟨fa, ft⟩ ⟨la, lt⟩) := Lib.hid (RcS.grown hcs.out (World.grownBy_alloc _ _ _))
      obtain ⟨ha0, ha1⟩ := (hcs.out).a.cells
      obtain ⟨hb0, hb1⟩ := (hcs.out).b.cells
      obtain ⟨hc0, hc1⟩ := (hcs.out).c.cells
      have hg0 := hcs.out.c.free 0; have hg1 := hcs.out.c.free 1
      obtain ⟨ka0, ka1⟩ := (KA.out).a.cells
      obtain ⟨kb0, kb1⟩ := (KA.out).b.cells
      obtain ⟨kc0, kc1⟩ := (KA.out).c.cells
      have kg0 := KA.out.c.free 0; have kg1 := KA.out.c.free 1
      go_upto_region 16 with (fail)
      obtain ⟨R2, hR2⟩ : ∃ R, (if q2 then (⟨Ls - th - z, Lt + 1⟩ : Wt) else ⟨ra, rt⟩) = R := ⟨_, rfl⟩
      obtain ⟨F2, hF2⟩ : ∃ R, (if q3 then (⟨Ls - th + z, Lt + 1⟩ : Wt) else ⟨fa, ft⟩) = R := ⟨_, rfl⟩
      have HR2 := Lib.hid hR2; have HF2 := Lib.hid hF2; have HL := Lib.hid hL
      clear hR2 hF2 hL
      have KB : Hid (RcS w (some ⟨b, off, none⟩) ss.length sc (World.alloc ((World.setCell wr ⟨w1.heap.size + 1 + 1, 0, none⟩ (.int .i64 (ra + z))).setCell ⟨w1.heap.size + 1 + 1, 1, none⟩ (.int .i64 (rt))) (.cells #[.int .i64 xt, .int .i64 xx, .int .i64 xy, .int .i64 z, .int .i64 xp, .int .i64 xq, .int .i64 xs] 79)) w1.heap.size (w1.heap.size + 1) (w1.heap.size + 1 + 1) ⟨ra, rt⟩ ⟨fa, ft⟩ ⟨ra + z, rt⟩) := Lib.hid (RcS.grown (RcS.setC hcs.out ⟨ra + z, rt⟩) (World.grownBy_alloc _ _ _))
      clear ha0 ha1 hb0 hb1 hc0 hc1 hg0 hg1 ka0 ka1 kb0 kb1 kc0 kc1 kg0 kg1
      obtain ⟨kb0, kb1⟩ := (KB.out).b.cells
      have kz : World.cell? (World.alloc ((World.setCell wr ⟨w1.heap.size + 1 + 1, 0, none⟩ (.int .i64 (ra + z))).setCell ⟨w1.heap.size + 1 + 1, 1, none⟩ (.int .i64 (rt))) (.cells #[.int .i64 xt, .int .i64 xx, .int .i64 xy, .int .i64 z, .int .i64 xp, .int .i64 xq, .int .i64 xs] 79)) ⟨wr.heap.size, 3, none⟩ = some (.int .i64 z) := by go_simp
      have KC : Hid (RcS w (some ⟨b, off, none⟩) ss.length sc (World.alloc (World.alloc ((World.setCell wr ⟨w1.heap.size + 1 + 1, 0, none⟩ (.int .i64 (ra + z))).setCell ⟨w1.heap.size + 1 + 1, 1, none⟩ (.int .i64 (rt))) (.cells #[.int .i64 xt, .int .i64 xx, .int .i64 xy, .int .i64 z, .int .i64 xp, .int .i64 xq, .int .i64 xs] 79)) (.cells #[.int .i64 (fa - z), .int .i64 (ft)] 118)) w1.heap.size (w1.heap.size + 1) (w1.heap.size + 1 + 1) ⟨ra, rt⟩ ⟨fa, ft⟩ ⟨ra + z, rt⟩) := Lib.hid (RcS.grown KB.out (World.grownBy_alloc _ _ _))
      obtain ⟨kd0, kd1⟩ := (KC.out).c.cells
      have hv1 : (World.heap (World.alloc ((World.setCell wr ⟨w1.heap.size + 1 + 1, 0, none⟩ (.int .i64 (ra + z))).setCell ⟨w1.heap.size + 1 + 1, 1, none⟩ (.int .i64 (rt))) (.cells #[.int .i64 xt, .int .i64 xx, .int .i64 xy, .int .i64 z, .int .i64 xp, .int .i64 xq, .int .i64 xs] 79))).size = wr.heap.size + 1 := by simp
      have x0 : World.cell? (World.alloc (World.alloc ((World.setCell wr ⟨w1.heap.size + 1 + 1, 0, none⟩ (.int .i64 (ra + z))).setCell ⟨w1.heap.size + 1 + 1, 1, none⟩ (.int .i64 (rt))) (.cells #[.int .i64 xt, .int .i64 xx, .int .i64 xy, .int .i64 z, .int .i64 xp, .int .i64 xq, .int .i64 xs] 79)) (.cells #[.int .i64 (fa - z), .int .i64 (ft)] 118)) ⟨wr.heap.size + 1, 0, none⟩ = some (.int .i64 (fa - z)) := by rw [← hv1]; go_simp
      have x1 : World.cell? (World.alloc (World.alloc ((World.setCell wr ⟨w1.heap.size + 1 + 1, 0, none⟩ (.int .i64 (ra + z))).setCell ⟨w1.heap.size + 1 + 1, 1, none⟩ (.int .i64 (rt))) (.cells #[.int .i64 xt, .int .i64 xx, .int .i64 xy, .int .i64 z, .int .i64 xp, .int .i64 xq, .int .i64 xs] 79)) (.cells #[.int .i64 (fa - z), .int .i64 (ft)] 118)) ⟨wr.heap.size + 1, 1, none⟩ = some (.int .i64 ft) := by rw [← hv1]; go_simp
      clear hv1
      go_wp2_with fail
      refine (rbetter_is ⟨fa - z, ft⟩ ⟨ra + z, rt⟩ _ H1).mono ?_; rintro e w5 ⟨rfl, hg5⟩
      have K5 : Hid (RcS w (some ⟨b, off, none⟩) ss.length sc w5 w1.heap.size (w1.heap.size + 1) (w1.heap.size + 1 + 1) ⟨ra, rt⟩ ⟨fa, ft⟩ ⟨ra + z, rt⟩) := Lib.hid (RcS.grown KC.out hg5)
      have z5 : w5.cell? ⟨wr.heap.size, 3, none⟩ = some (.int .i64 z) := grown_cell hg5 (grown_cell (World.grownBy_alloc _ _ _) kz)
      have x50 := grown_cell hg5 x0; have x51 := grown_cell hg5 x1
      have s5 : wr.heap.size < w5.heap.size := by have := hg5.size; simp at this; omega
      have y0 := K5.out.c.free 0; have y1 := K5.out.c.free 1
      obtain ⟨v0, v1⟩ := K5.out.c.cells
      clear hg5 kb0 kb1 kd0 kd1 kz x0 x1 KB KC
      go_upto_if 71 with (fail)
      go_cut [14] (fun s14 wx => s14 = s14 ∧ Hid (RcS w (some ⟨b, off, none⟩) ss.length sc wx w1.heap.size (w1.heap.size + 1) (w1.heap.size + 1 + 1) ⟨ra, rt⟩ ⟨fa, ft⟩ ⟨Ls, Lt⟩) ∧ wx.cell? ⟨wr.heap.size, 3, none⟩ = some (.int .i64 z) ∧ wr.heap.size < wx.heap.size)
      case first => as_aux_lemma =>
        cases q1
        · have hl := HL.out; simp only [Bool.false_eq_true, if_false, Wt.mk.injEq] at hl; obtain ⟨rfl, rfl⟩ := hl
          go_wp2_with fail
          go_meet
          exact ⟨by simp, K5, z5, s5⟩
        · have hl := HL.out; simp only [if_true, Wt.mk.injEq] at hl; obtain ⟨rfl, rfl⟩ := hl
          go_wp2_with fail
          go_meet
          exact ⟨by simp, Lib.hid (RcS.setC K5.out ⟨fa - z, Lt⟩), far2 z5 (by omega), by simpa using s5⟩
      case rest =>
        clear K5 z5 s5
        obtain ⟨-, K5, z5, s5⟩ := hcut
        clear v0 v1 x50 x51 y0 y1 H1 HL c0 c1 c2 c3 c4 c5 c6
        obtain ⟨wb, hwb⟩ : ∃ wb, wb = wc := ⟨_, rfl⟩
        subst hwb
        obtain ⟨ka0, ka1⟩ := (K5.out).a.cells
        obtain ⟨kc0, kc1⟩ := (K5.out).c.cells
        have kz : World.cell? (World.alloc wb (.cells #[.int .i64 (Ls - th), .int .i64 (Lt + 1)] 118)) ⟨wr.heap.size, 3, none⟩ = some (.int .i64 z) := grown_cell (World.grownBy_alloc _ _ _) z5
        have hv1 : (World.heap (World.alloc wb (.cells #[.int .i64 (Ls - th), .int .i64 (Lt + 1)] 118))).size = wb.heap.size + 1 := by simp
        have t0_ : World.cell? (World.alloc (World.alloc wb (.cells #[.int .i64 (Ls - th), .int .i64 (Lt + 1)] 118)) (.cells #[.int .i64 (Ls - th - z), .int .i64 (Lt + 1)] 118)) ⟨wb.heap.size, 0, none⟩ = some (.int .i64 (Ls - th)) := grown_cell (World.grownBy_alloc _ _ _) (by go_simp)
        have t1_ : World.cell? (World.alloc (World.alloc wb (.cells #[.int .i64 (Ls - th), .int .i64 (Lt + 1)] 118)) (.cells #[.int .i64 (Ls - th - z), .int .i64 (Lt + 1)] 118)) ⟨wb.heap.size, 1, none⟩ = some (.int .i64 (Lt + 1)) := grown_cell (World.grownBy_alloc _ _ _) (by go_simp)
        have x0 : World.cell? (World.alloc (World.alloc wb (.cells #[.int .i64 (Ls - th), .int .i64 (Lt + 1)] 118)) (.cells #[.int .i64 (Ls - th - z), .int .i64 (Lt + 1)] 118)) ⟨wb.heap.size + 1, 0, none⟩ = some (.int .i64 (Ls - th - z)) := by rw [← hv1]; go_simp
        have x1 : World.cell? (World.alloc (World.alloc wb (.cells #[.int .i64 (Ls - th), .int .i64 (Lt + 1)] 118)) (.cells #[.int .i64 (Ls - th - z), .int .i64 (Lt + 1)] 118)) ⟨wb.heap.size + 1, 1, none⟩ = some (.int .i64 (Lt + 1)) := by rw [← hv1]; go_simp
        have KV : Hid (RcS w (some ⟨b, off, none⟩) ss.length sc (World.alloc (World.alloc wb (.cells #[.int .i64 (Ls - th), .int .i64 (Lt + 1)] 118)) (.cells #[.int .i64 (Ls - th - z), .int .i64 (Lt + 1)] 118)) w1.heap.size (w1.heap.size + 1) (w1.heap.size + 1 + 1) ⟨ra, rt⟩ ⟨fa, ft⟩ ⟨Ls, Lt⟩) := Lib.hid (RcS.grown K5.out (grown_trans (World.grownBy_alloc _ _ _) (World.grownBy_alloc _ _ _)))
        have kz2 : World.cell? (World.alloc (World.alloc wb (.cells #[.int .i64 (Ls - th), .int .i64 (Lt + 1)] 118)) (.cells #[.int .i64 (Ls - th - z), .int .i64 (Lt + 1)] 118)) ⟨wr.heap.size, 3, none⟩ = some (.int .i64 z) := grown_cell (World.grownBy_alloc _ _ _) kz
        clear hv1
        obtain ⟨kv0, kv1⟩ := (KV.out).a.cells
        go_wp2_with fail
        refine (rbetter_is ⟨Ls - th - z, Lt + 1⟩ ⟨ra, rt⟩ _ H2).mono ?_; rintro e w6 ⟨rfl, hg6⟩
        have K6 : Hid (RcS w (some ⟨b, off, none⟩) ss.length sc w6 w1.heap.size (w1.heap.size + 1) (w1.heap.size + 1 + 1) ⟨ra, rt⟩ ⟨fa, ft⟩ ⟨Ls, Lt⟩) := Lib.hid (RcS.grown KV.out hg6)
        have z6 := grown_cell hg6 kz2; have t60 := grown_cell hg6 t0_; have t61 := grown_cell hg6 t1_; have x60 := grown_cell hg6 x0; have x61 := grown_cell hg6 x1
        have s6 : wb.heap.size < w6.heap.size := by have := hg6.size; simp at this; omega
        have y0 := K6.out.a.free 0; have y1 := K6.out.a.free 1
        obtain ⟨v0, v1⟩ := K6.out.a.cells
        clear hg6 kz kz2 t0_ t1_ x0 x1 KV ka0 ka1 kc0 kc1 kv0 kv1
        go_upto_if 91 with (fail)
        go_cut [16] (fun s16 wx => s16 = s16 ∧ Hid (RcS w (some ⟨b, off, none⟩) ss.length sc wx w1.heap.size (w1.heap.size + 1) (w1.heap.size + 1 + 1) R2 ⟨fa, ft⟩ ⟨Ls, Lt⟩) ∧ wx.cell? ⟨wr.heap.size, 3, none⟩ = some (.int .i64 z) ∧ (wx.cell? ⟨wb.heap.size, 0, none⟩ = some (.int .i64 (Ls - th)) ∧ wx.cell? ⟨wb.heap.size, 1, none⟩ = some (.int .i64 (Lt + 1))) ∧ wb.heap.size < wx.heap.size)
        case first => as_aux_lemma =>
          cases q2
          · have hl := HR2.out; simp only [Bool.false_eq_true, if_false] at hl; subst hl
            go_wp2_with fail
            go_meet
            exact ⟨by simp, K6, z6, ⟨t60, t61⟩, s6⟩
          · have hl := HR2.out; simp only [if_true] at hl; subst hl
            go_wp2_with fail
            go_meet
            exact ⟨by simp, Lib.hid (RcS.setA K6.out ⟨Ls - th - z, Lt + 1⟩), far2 z6 (by omega), ⟨far2 t60 (by omega), far2 t61 (by omega)⟩, by simpa using s6⟩
        case rest =>
          clear K6 z6 t60 t61 s6
          obtain ⟨-, K6, z6, ⟨t60, t61⟩, s6⟩ := hcut
          clear v0 v1 x60 x61 y0 y1 H2 z5
          obtain ⟨wd, hwd⟩ : ∃ wd, wd = wc := ⟨_, rfl⟩
          subst hwd
          have KV : Hid (RcS w (some ⟨b, off, none⟩) ss.length sc (World.alloc wd (.cells #[.int .i64 (Ls - th + z), .int .i64 (Lt + 1)] 118)) w1.heap.size (w1.heap.size + 1) (w1.heap.size + 1 + 1) R2 ⟨fa, ft⟩ ⟨Ls, Lt⟩) := Lib.hid (RcS.grown K6.out (World.grownBy_alloc _ _ _))
          have x0 : World.cell? (World.alloc wd (.cells #[.int .i64 (Ls - th + z), .int .i64 (Lt + 1)] 118)) ⟨wd.heap.size, 0, none⟩ = some (.int .i64 (Ls - th + z)) := by go_simp
          have x1 : World.cell? (World.alloc wd (.cells #[.int .i64 (Ls - th + z), .int .i64 (Lt + 1)] 118)) ⟨wd.heap.size, 1, none⟩ = some (.int .i64 (Lt + 1)) := by go_simp
          obtain ⟨kv0, kv1⟩ := (KV.out).b.cells
          go_wp2_with fail
          refine (rbetter_is ⟨Ls - th + z, Lt + 1⟩ ⟨fa, ft⟩ _ H3).mono ?_; rintro e w7 ⟨rfl, hg7⟩
          have K7 : Hid (RcS w (some ⟨b, off, none⟩) ss.length sc w7 w1.heap.size (w1.heap.size + 1) (w1.heap.size + 1 + 1) R2 ⟨fa, ft⟩ ⟨Ls, Lt⟩) := Lib.hid (RcS.grown KV.out hg7)
          have x70 := grown_cell hg7 x0; have x71 := grown_cell hg7 x1
          have y0 := K7.out.b.free 0; have y1 := K7.out.b.free 1
          obtain ⟨v0, v1⟩ := K7.out.b.cells
          clear hg7 x0 x1 KV kv0 kv1
          have HM : Hid (Same2 th zf (s.next th z) ⟨R2, F2, ⟨Ls, Lt⟩⟩) := by show Same2 _ _ _ _; rw [← HR2.out, ← HF2.out]; exact HN.out.1.out
          have HLL := HN.out.2
          clear t60 t61 z6 HN
          cases q3
          · have hl := HF2.out; simp only [Bool.false_eq_true, if_false] at hl; subst hl
            go_wp2_with fail
            go_roundw
            case rel => exact ⟨k + 1, s.next th z, ⟨R2, ⟨fa, ft⟩, ⟨Ls, Lt⟩⟩, by omega, by go_num, K7.out, HM.out, HFIN.out, hbd2.out, fun _ => ⟨HLL.out, HBO.out.1, HBO.out.2.trans (by rw [HSX.out])⟩⟩
            case measure => simp [intOf]; omega
          · have hl := HF2.out; simp only [if_true] at hl; subst hl
            go_wp2_with fail
            go_roundw
            case rel => exact ⟨k + 1, s.next th z, ⟨R2, ⟨Ls - th + z, Lt + 1⟩, ⟨Ls, Lt⟩⟩, by omega, by go_num, RcS.setB K7.out ⟨Ls - th + z, Lt + 1⟩, HM.out, HFIN.out, hbd2.out, fun _ => ⟨HLL.out, HBO.out.1, HBO.out.2.trans (by rw [HSX.out])⟩⟩
            case measure => simp [intOf]; omega
    · have hkm : k = m := by omega
      have hf := hfin.out
      have hdn : (ss.drop 1).drop k = [] := by rw [List.drop_drop]; exact List.drop_eq_nil_of_le (by have := HM1.out; omega)
      rw [hdn] at hf
      simp only [climbS] at hf
      have hk0 : 0 < k := by have := HM1.out; omega
      obtain ⟨hla, hok, hbz⟩ := hlast.out hk0
      have hbb := hbd.out.1
      rw [hf] at hla hok hbz hbb
      have hml : m < ss.length := by have := HM1.out; omega
      obtain ⟨e0, e1, e2, cz, e4, e5, e6⟩ := ((HA.out.grown hcs.out.g).hs).cells _ rfl m hml
      clear e0 e1 e2 e4 e5 e6
      rw [← smpD_at hml] at cz
      rw [hkm] at hbz
      rw [← hbz] at cz
      simp only at cz
      obtain ⟨qr, qf, ql⟩ := q
      simp only at hla hcs
      subst hla
      have hpb := prod_bd t0 t1 hbb.t0 (by have := hbb.t1; omega)
      have hu0 := hbb.u0; have hu1 := hbb.u1; have hd0 := hbb.d0; have hd1 := hbb.d1; have hz0 := hbb.z0; have hz1 := hbb.z1
      have hok2 := hok.2.2.2
      obtain ⟨P, hP⟩ : ∃ P, th * r.turns = P := ⟨_, rfl⟩
      obtain ⟨V, hV⟩ : ∃ V, r.worth th = V := ⟨_, rfl⟩
      have hV2 : V = r.up + r.down - P := by rw [← hV, ← hP]; rfl
      rw [hP] at hpb
      rw [hV] at hcs
      obtain ⟨ru, rd, rt, rz⟩ := r
      simp only at *
      have rp : IntKind.i64.wrap (th * rt) = P := by rw [hP]; exact IntWalk.i64_in _ (by omega)
      have h10 := HM1.out
      have ea : ((ss.length : Int) - 1).toNat = m := by omega
      have pa : (0 : Int) ≤ (ss.length : Int) - 1 := by omega
      have pb : (1 : Int) ≤ (ss.length : Int) := by omega
      have ba : (ss.length : Int) - 1 < (ss.length : Int) := by omega
      have rra : IntKind.i64.wrap ((ss.length : Int) - 1) = (ss.length : Int) - 1 := IntWalk.i64_in _ (by omega)
      have v9 : V + P = ru + rd := by omega
      have d0 : (V + P + (rz - zf)).tdiv 2 = ru := by rw [show V + P + (rz - zf) = 2 * ru by omega]; exact Int.mul_tdiv_cancel_left _ (by decide)
      have d1 : (V + P - (rz - zf)).tdiv 2 = rd := by rw [show V + P - (rz - zf) = 2 * rd by omega]; exact Int.mul_tdiv_cancel_left _ (by decide)
      have hvb : -40000000000 ≤ V ∧ V ≤ 40000000000 := by omega
      have hpb2 : 0 ≤ P ∧ P ≤ 40000000000 := by omega
      obtain ⟨hv0, hv1⟩ := hvb
      obtain ⟨hp0, hp1⟩ := hpb2
      obtain ⟨q0, q1⟩ := hcs.out.c.cells
      have b3 := hcs.out.b3
      have hkz := hcs.out.kz
      have z0 : wr.cell? ⟨w.heap.size + 1, 0, none⟩ = some (.int .i64 0) := by simp [World.cell?, hkz]
      have z1 : wr.cell? ⟨w.heap.size + 1, 1, none⟩ = some (.int .i64 0) := by simp [World.cell?, hkz]
      have z2 : wr.cell? ⟨w.heap.size + 1, 2, none⟩ = some (.int .i64 0) := by simp [World.cell?, hkz]
      have y0 : wr.frozen? ⟨w.heap.size + 1, 0, none⟩ = false := by simp [World.frozen?, hkz]
      have y1 : wr.frozen? ⟨w.heap.size + 1, 1, none⟩ = false := by simp [World.frozen?, hkz]
      have y2 : wr.frozen? ⟨w.heap.size + 1, 2, none⟩ = false := by simp [World.frozen?, hkz]
      have HG := Lib.hid hcs.out.g
      have HD0 := Lib.hid d0; have HD1 := Lib.hid d1
      clear hcs hfin hbd hdn hkz hlast hf hok hbb hP hV hV2 hpb hsm hbz v9 h10 hr HR0 HC0 HBD
      go_wp2_with fail
      refine bodyPost_ret (v := .tuple #[.agg #[.int .i64 ru, .int .i64 rd, .int .i64 rt], .int .i64 0]) (by simp [results, Try.results56, go_sem, z0, z1, z2, HD0.out, HD1.out]) rfl ⟨rfl, ?_⟩
      exact grown_set (grown_set (grown_set HG.out (by omega) _ _) (by omega) _ _) (by omega) _ _

end Go.Proofs.Ytkifmjohcmjeeaa
