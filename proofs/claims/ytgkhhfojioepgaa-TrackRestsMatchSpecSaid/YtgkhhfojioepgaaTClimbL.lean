/- The contract of Climb, where nothing is wrong. -/
import Derived.Test.YtgkhhfojioepgaaTClimb
import Derived.Test.YtgkhhfojioepgaaTWaysM
import Derived.Deep.CutBlock
import Derived.Deep.DeepCutAuto
import Derived.Deep.RegionHeld3
namespace Go.Proofs.Ytgkhhfojioepgaa
open Go.RowKit
set_option linter.unusedSimpArgs false
set_option linter.unusedVariables false

theorem bd_fits {k : Int} {l : Ln} (h : l.bd k) (hk : k ≤ 20000) : l.fits := ⟨h.u0, by have := h.u1; omega, h.d0, by have := h.d1; omega, h.t0, by have := h.t1; omega, h.z0, h.z1⟩
theorem line_first {z : Int} (z0 : -100000 ≤ z) (z1 : z ≤ 100000) : (Ln.first z).bd 0 := ⟨by simp [Ln.first], by simp [Ln.first], by simp [Ln.first], by simp [Ln.first], by simp [Ln.first], by simp [Ln.first], z0, z1⟩


theorem ClS.grown {w : World} {th : Int} {wr wr' : World} {A B C : Nat} {n l h : Ln} (k : ClS w th wr A B C n l h) (g : wr.grownBy wr' none) : ClS w th wr' A B C n l h :=
  ⟨grown_trans k.g g, grown_cell g k.tz, (g.block _ (Array.getElem?_eq_some_iff.1 k.kz).1 (by simp)).trans k.kz, k.a.grown g, k.b.grown g, k.c.grown g, k.ab, k.ac, k.bc, k.ha, k.hb, k.hc⟩
theorem ClS.setA {w : World} {th : Int} {wr : World} {A B C : Nat} {n l h : Ln} (k : ClS w th wr A B C n l h) (m : Ln) : ClS w th ((((wr.setCell ⟨A, 0, none⟩ (.int .i64 m.up)).setCell ⟨A, 1, none⟩ (.int .i64 m.down)).setCell ⟨A, 2, none⟩ (.int .i64 m.turns)).setCell ⟨A, 3, none⟩ (.int .i64 m.z)) A B C m l h :=
  ⟨grown_set (grown_set (grown_set (grown_set k.g (by have := k.ha; omega) _ _) (by have := k.ha; omega) _ _) (by have := k.ha; omega) _ _) (by have := k.ha; omega) _ _,
   by rw [World.cell?_setCell_other, World.cell?_setCell_other, World.cell?_setCell_other, World.cell?_setCell_other]
      · exact k.tz
      all_goals (intro e; injection e with e1 _ _; have := k.ha; omega),
   by rw [Below.heap_setCell, Below.heap_setCell, Below.heap_setCell, Below.heap_setCell]
      · exact k.kz
      all_goals (show _ ≠ A; have := k.ha; omega),
   k.a.set m, (((k.b.far k.ab.symm _ _).far k.ab.symm _ _).far k.ab.symm _ _).far k.ab.symm _ _, (((k.c.far k.ac.symm _ _).far k.ac.symm _ _).far k.ac.symm _ _).far k.ac.symm _ _, k.ab, k.ac, k.bc, k.ha, k.hb, k.hc⟩
theorem ClS.swap {w : World} {th : Int} {wr : World} {A B C : Nat} {n l h : Ln} (k : ClS w th wr A B C n l h) : ClS w th wr B A C l n h := ⟨k.g, k.tz, k.kz, k.b, k.a, k.c, k.ab.symm, k.bc, k.ac, k.hb, k.ha, k.hc⟩
theorem ClS.turn {w : World} {th : Int} {wr : World} {A B C : Nat} {n l h : Ln} (k : ClS w th wr A B C n l h) : ClS w th wr C B A h l n := ⟨k.g, k.tz, k.kz, k.c, k.b, k.a, k.bc.symm, k.ac.symm, k.ab.symm, k.hc, k.hb, k.ha⟩

/-- The three lines, as Climb lays them at first. -/
theorem cls_start {w w1 : World} {th zf : Int} (g : w.grownBy w1 none) (tz : w1.cell? ⟨w.heap.size + 1, 0, none⟩ = some (.int .i64 th)) (kz : w1.heap[w.heap.size + 1 + 1]? = some (.cells #[.int .i64 0, .int .i64 0, .int .i64 0] 81 (0, 0))) (hs : w.heap.size + 2 < w1.heap.size) (p q : Nat) (h : (p = w1.heap.size + 1 ∧ q = w1.heap.size + 1 + 1) ∨ (p = w1.heap.size + 1 + 1 ∧ q = w1.heap.size + 1)) :
    ClS w th (((w1.alloc (.cells #[.int .i64 0, .int .i64 0, .int .i64 0, .int .i64 zf] 139)).alloc (.cells #[.int .i64 0, .int .i64 0, .int .i64 0, .int .i64 zf] 139)).alloc (.cells #[.int .i64 0, .int .i64 0, .int .i64 0, .int .i64 zf] 139)).drew w1.heap.size p q (Ln.first zf) (Ln.first zf) (Ln.first zf) := by
  have G := grown_trans (grown_trans (World.grownBy_alloc w1 (.cells #[.int .i64 0, .int .i64 0, .int .i64 0, .int .i64 zf] 139) none) (World.grownBy_alloc (w1.alloc (.cells #[.int .i64 0, .int .i64 0, .int .i64 0, .int .i64 zf] 139)) (.cells #[.int .i64 0, .int .i64 0, .int .i64 0, .int .i64 zf] 139) none)) (World.grownBy_alloc ((w1.alloc (.cells #[.int .i64 0, .int .i64 0, .int .i64 0, .int .i64 zf] 139)).alloc (.cells #[.int .i64 0, .int .i64 0, .int .i64 0, .int .i64 zf] 139)) (.cells #[.int .i64 0, .int .i64 0, .int .i64 0, .int .i64 zf] 139) none)
  have a0 : ((w1.alloc (.cells #[.int .i64 0, .int .i64 0, .int .i64 0, .int .i64 zf] 139)).alloc (.cells #[.int .i64 0, .int .i64 0, .int .i64 0, .int .i64 zf] 139)).alloc (.cells #[.int .i64 0, .int .i64 0, .int .i64 0, .int .i64 zf] 139) |>.heap[w1.heap.size]? = some (.cells #[.int .i64 0, .int .i64 0, .int .i64 0, .int .i64 zf] 139) := by
    rw [Below.heap_alloc _ _ _ (by simp; omega), Below.heap_alloc _ _ _ (by simp)]; exact heap_alloc_new w1 _
  have a1 : ((w1.alloc (.cells #[.int .i64 0, .int .i64 0, .int .i64 0, .int .i64 zf] 139)).alloc (.cells #[.int .i64 0, .int .i64 0, .int .i64 0, .int .i64 zf] 139)).alloc (.cells #[.int .i64 0, .int .i64 0, .int .i64 0, .int .i64 zf] 139) |>.heap[w1.heap.size + 1]? = some (.cells #[.int .i64 0, .int .i64 0, .int .i64 0, .int .i64 zf] 139) := by
    rw [Below.heap_alloc _ _ _ (by simp)]
    have q := heap_alloc_new (w1.alloc (.cells #[.int .i64 0, .int .i64 0, .int .i64 0, .int .i64 zf] 139)) (.cells #[.int .i64 0, .int .i64 0, .int .i64 0, .int .i64 zf] 139)
    simpa using q
  have a2 : ((w1.alloc (.cells #[.int .i64 0, .int .i64 0, .int .i64 0, .int .i64 zf] 139)).alloc (.cells #[.int .i64 0, .int .i64 0, .int .i64 0, .int .i64 zf] 139)).alloc (.cells #[.int .i64 0, .int .i64 0, .int .i64 0, .int .i64 zf] 139) |>.heap[w1.heap.size + 1 + 1]? = some (.cells #[.int .i64 0, .int .i64 0, .int .i64 0, .int .i64 zf] 139) := by
    have q := heap_alloc_new ((w1.alloc (.cells #[.int .i64 0, .int .i64 0, .int .i64 0, .int .i64 zf] 139)).alloc (.cells #[.int .i64 0, .int .i64 0, .int .i64 0, .int .i64 zf] 139)) (.cells #[.int .i64 0, .int .i64 0, .int .i64 0, .int .i64 zf] 139)
    simpa using q
  refine ⟨grown_trans (grown_trans g G) (grown_drewN _ _ 1), grown_cell G tz, (G.block _ (by omega) (by simp)).trans kz, a0, ?_, ?_, by omega, by omega, by omega, hs, by omega, by omega⟩
  · rcases h with ⟨rfl, rfl⟩ | ⟨rfl, rfl⟩
    · exact a1
    · exact a2
  · rcases h with ⟨rfl, rfl⟩ | ⟨rfl, rfl⟩
    · exact a2
    · exact a1

set_option maxRecDepth 100000 in
set_option maxHeartbeats 6400000 in
theorem climb_two (nm : ByteArray) (sp st : Int) (b off sc : Nat) (ss : List Smp) (lo : Option Addr) (lc : Nat) (ls : List LapV) (to_ : Option Addr) (tc : Nat) (ts : List ByteArray) (th : Int) (t0 : 0 ≤ th) (t1 : th ≤ 200000) (hl : (ss.length : Int) ≤ 20000) (h2 : 2 ≤ ss.length) (hcap : ss.length ≤ sc) (w : World)
    (HA : Hid (ActAt w ⟨nm, sp, st, some ⟨b, off, none⟩, sc, ss, lo, lc, ls, to_, tc, ts⟩)) (HCE : Hid (chkE ⟨nm, sp, st, some ⟨b, off, none⟩, sc, ss, lo, lc, ls, to_, tc, ts⟩ = 0)) (HZ : Hid (∀ k, -100000 ≤ (smpD ss k).z ∧ (smpD ss k).z ≤ 100000)) {r : Ln} (hr : Hid (climbL th ss = r)) :
    Calls Try.prog 68 #[.agg #[.string nm, .int .i64 sp, .int .i64 st, .slice (some ⟨b, off, none⟩) ss.length sc, .slice lo ls.length lc, .slice to_ ts.length tc], .int .i64 th] w fun x w' => x = .returned (.tuple #[.agg #[.int .i64 r.up, .int .i64 r.down, .int .i64 r.turns], .int .i64 0]) ∧ w.grownBy w' none := by
  have n1 : 1 ≤ ss.length := by omega
  have n2 : (1 : Int) ≤ (ss.length : Int) := by omega
  have n3 : (0 : Int) < (ss.length : Int) := by omega
  have n4 : 0 < ss.length := by omega
  have n5 : (ss.length : Int) ≤ (sc : Int) := by omega
  have n6 : ¬ sc = 1 := by omega
  have n7 : ((ss.length : Int) == 0) = false := by rw [beq_eq_false_iff_ne]; omega
  go_enter Try.func68, Try.ntmps68
  go_wp2_with fail
  refine (check_any ⟨nm, sp, st, some ⟨b, off, none⟩, sc, ss, lo, lc, ls, to_, tc, ts⟩ _ (HA.out.grown (grown_trans (grown_trans (World.grownBy_alloc _ _ _) (World.grownBy_alloc _ _ _)) (World.grownBy_alloc _ _ _))) HCE).mono ?_; rintro e w1 ⟨rfl, hg1⟩
  have G1 : w.grownBy w1 none := grown_trans (grown_trans (grown_trans (World.grownBy_alloc w (.cells #[.string nm, .int .i64 sp, .int .i64 st, .slice (some ⟨b, off, none⟩) ss.length sc, .slice lo ls.length lc, .slice to_ ts.length tc] 26) none) (World.grownBy_alloc _ _ _)) (World.grownBy_alloc _ _ _)) hg1
  have b3 : w1.cell? ⟨w.heap.size, 3, none⟩ = some (.slice (some ⟨b, off, none⟩) ss.length sc) := grown_cell hg1 (by go_simp)
  have tz : w1.cell? ⟨w.heap.size + 1, 0, none⟩ = some (.int .i64 th) := grown_cell hg1 (by go_simp)
  have kz : w1.heap[w.heap.size + 1 + 1]? = some (.cells #[.int .i64 0, .int .i64 0, .int .i64 0] 81 (0, 0)) := by
    rw [hg1.block _ (by simp) (by simp)]
    have q := heap_alloc_new ((w.alloc (.cells #[.string nm, .int .i64 sp, .int .i64 st, .slice (some ⟨b, off, none⟩) ss.length sc, .slice lo ls.length lc, .slice to_ ts.length tc] 26)).alloc (.cells #[.int .i64 th] 3)) (.cells #[.int .i64 0, .int .i64 0, .int .i64 0] 81)
    simpa using q
  have z0 : w1.cell? ⟨w.heap.size + 1 + 1, 0, none⟩ = some (.int .i64 0) := by simp [World.cell?, kz]
  have z1 : w1.cell? ⟨w.heap.size + 1 + 1, 1, none⟩ = some (.int .i64 0) := by simp [World.cell?, kz]
  have z2 : w1.cell? ⟨w.heap.size + 1 + 1, 2, none⟩ = some (.int .i64 0) := by simp [World.cell?, kz]
  have y0 : w1.frozen? ⟨w.heap.size + 1 + 1, 0, none⟩ = false := by simp [World.frozen?, kz]
  have y1 : w1.frozen? ⟨w.heap.size + 1 + 1, 1, none⟩ = false := by simp [World.frozen?, kz]
  have y2 : w1.frozen? ⟨w.heap.size + 1 + 1, 2, none⟩ = false := by simp [World.frozen?, kz]
  have HKZ := Lib.hid kz
  have hsz : Hid (w.heap.size + 3 ≤ w1.heap.size) := by show _ ≤ _; have := hg1.size; simp at this; omega
  clear hg1 kz
  go_wp2_with fail
  refine (twithin_yes _ _ _ t0 t1 _).mono ?_; rintro e w2 ⟨rfl, rfl⟩
  obtain ⟨e0, e1, e2, cz, e4, e5, e6⟩ := ((HA.out.grown G1).hs).cells _ rfl 0 n4
  clear e0 e1 e2 e4 e5 e6
  rw [← smpD_at n4] at cz
  obtain ⟨zf, hzf⟩ : ∃ z, (smpD ss 0).z = z := ⟨_, rfl⟩
  rw [hzf] at cz
  simp only [Nat.zero_mul, Nat.add_zero] at cz
  have hmf : ∀ (fn : Fn) (first cap : Array Value) (w : World), (Instr.makeFunc fn first cap).run Try.prog w = .ok (.func fn first cap) w := fun _ _ _ _ => rfl
  go_upto_region 10 with (fail)
  have hs1 : w.heap.size + 2 < w1.heap.size := by have h9 := hsz.out; omega
  go_cut [9, 10] (fun s9 s10 wx => ∃ B C, s9 = .pointer (some ⟨B, 0, none⟩) ∧ s10 = .pointer (some ⟨C, 0, none⟩) ∧ ClS w th wx w1.heap.size B C (Ln.first zf) (Ln.first zf) (Ln.first zf) ∧ wx.cell? ⟨w.heap.size, 3, none⟩ = some (.slice (some ⟨b, off, none⟩) ss.length sc))
  case first => as_aux_lemma =>
    go_region
    all_goals
      go_wp2_with fail
      go_meet
      first
        | exact ⟨_, _, rfl, rfl, cls_start G1 tz HKZ.out hs1 _ _ (.inl ⟨rfl, rfl⟩), grown_cell (grown_trans (grown_trans (grown_trans (World.grownBy_alloc _ _ _) (World.grownBy_alloc _ _ _)) (World.grownBy_alloc _ _ _)) (grown_drewN _ _ 1)) b3⟩
        | exact ⟨_, _, rfl, rfl, cls_start G1 tz HKZ.out hs1 _ _ (.inr ⟨rfl, rfl⟩), grown_cell (grown_trans (grown_trans (grown_trans (World.grownBy_alloc _ _ _) (World.grownBy_alloc _ _ _)) (World.grownBy_alloc _ _ _)) (grown_drewN _ _ 1)) b3⟩
  case rest =>
    obtain ⟨B, C, rfl, rfl, hc0, b3⟩ := hcut
    have HC0 := Lib.hid hc0
    clear hc0 tz z0 z1 z2 y0 y1 y2
    go_wp2_with fail
    generalize hmm : ss.length - 1 = m
    have hm1 : ss.length = m + 1 := by omega
    have HM1 := Lib.hid hm1
    have m20 : (m : Int) ≤ 20000 := by omega
    have HR0 : Hid ((climbS th ⟨Ln.first zf, Ln.first zf, Ln.first zf⟩ ((ss.drop 1).drop 0)).best = r) := by
      show _ = _
      rw [← hr.out]
      cases hss : ss with
      | nil => rw [hss] at n4; simp at n4
      | cons x0 rest =>
        have hx : (smpD ss 0).z = x0.z := by rw [hss]; rfl
        rw [hzf] at hx
        rw [hx]; rfl
    have HF0 := HZ.out 0
    rw [hzf] at HF0
    have hbd0 := line_first HF0.1 HF0.2
    have HBD : Hid ((Ln.first zf).bd ((0 : Nat) : Int) ∧ (Ln.first zf).bd ((0 : Nat) : Int) ∧ (Ln.first zf).bd ((0 : Nat) : Int)) := ⟨hbd0, hbd0, hbd0⟩
    clear hmm hm1 b3 cz hzf HF0 hbd0 n1 n2 n3 n4 n5 n6 n7 hcap
    go_loopw [42] (fun iv wr => ∃ (k : Nat) (best low high : Ln), k ≤ m ∧ iv = .int .i64 k ∧ Hid (ClS w th wr w1.heap.size B C best low high) ∧ Hid ((climbS th ⟨best, low, high⟩ ((ss.drop 1).drop k)).best = r) ∧ Hid (best.bd k ∧ low.bd k ∧ high.bd k))
      (fun iv _ => m - (intOf iv).toNat)
    case atStart => exact ⟨0, _, _, _, Nat.zero_le _, rfl, HC0.out, HR0.out, HBD.out⟩
    case round =>
      obtain ⟨k, best, low, high, hk, rfl, hcs, hfin, hbd⟩ := hrel
      by_cases hlt : k < m
      · have hk1 : k + 1 < ss.length := by have := HM1.out; omega
        obtain ⟨c0, c1, c2, c3, c4, c5, c6⟩ := ((HA.out.grown hcs.out.g).hs).cells _ rfl (k + 1) hk1
        rw [← smpD_at hk1] at c0 c1 c2 c3 c4 c5 c6
        have had : off + (k + 1) * 7 = off + 7 + k * 7 := by omega
        rw [had] at c0 c1 c2 c3 c4 c5 c6
        have hz := HZ.out (k + 1)
        have hdr : (ss.drop 1).drop k = smpD ss (k + 1) :: (ss.drop 1).drop (k + 1) := by
          rw [List.drop_drop, List.drop_drop, Nat.add_comm 1 k, Nat.add_comm 1 (k + 1), List.drop_eq_getElem_cons hk1, smpD_at hk1]
        have hfin2 := hfin.out
        rw [hdr] at hfin2
        simp only [climbS] at hfin2
        have hkk : (k : Int) + 1 ≤ 20000 := by have := HM1.out; omega
        obtain ⟨bp, bq, bn, bm, bx, by_⟩ := bd_next (th := th) (s := ⟨best, low, high⟩) hbd.out.2.1 hbd.out.2.2 hz.1 hz.2
        have fl := bd_fits hbd.out.2.1 (by omega); have fh := bd_fits hbd.out.2.2 (by omega)
        have hfit : ∀ l : Ln, l.bd ((k : Int) + 1) → l.fits := fun l h => bd_fits h hkk
        have fp := hfit _ bp; have fq := hfit _ bq; have fn_ := hfit _ bn; have fm := hfit _ bm
        have hnn : (St.next th ⟨best, low, high⟩ (smpD ss (k + 1)).z).best = betterL th 0 (low.go (smpD ss (k + 1)).z) (high.go (smpD ss (k + 1)).z) := rfl
        have hnx : (St.next th ⟨best, low, high⟩ (smpD ss (k + 1)).z).low = betterL th (-1) low (St.next th ⟨best, low, high⟩ (smpD ss (k + 1)).z).best.more := rfl
        have hny : (St.next th ⟨best, low, high⟩ (smpD ss (k + 1)).z).high = betterL th 1 high (St.next th ⟨best, low, high⟩ (smpD ss (k + 1)).z).best.more := rfl
        simp only at bp bq
        have hst : ∀ q : St, q = ⟨q.best, q.low, q.high⟩ := fun _ => rfl
        rw [hst (St.next th ⟨best, low, high⟩ (smpD ss (k + 1)).z)] at hfin2
        generalize (St.next th ⟨best, low, high⟩ (smpD ss (k + 1)).z).best = N at *
        generalize (St.next th ⟨best, low, high⟩ (smpD ss (k + 1)).z).low = X at *
        generalize (St.next th ⟨best, low, high⟩ (smpD ss (k + 1)).z).high = Y at *
        generalize smpD ss (k + 1) = xx at *
        obtain ⟨xt, xx, xy, z, xp, xq, xs⟩ := xx
        simp only at c0 c1 c2 c3 c4 c5 c6 hz hnn hnx hny fp fq bp bq
        have hbd2 : Hid (N.bd ((k + 1 : Nat) : Int) ∧ X.bd ((k + 1 : Nat) : Int) ∧ Y.bd ((k + 1 : Nat) : Int)) := ⟨by rw [Int.natCast_add]; exact bn, by rw [Int.natCast_add]; exact bx, by rw [Int.natCast_add]; exact by_⟩
        have HFIN := Lib.hid hfin2
        obtain ⟨P, hP⟩ : ∃ P, low.go z = P := ⟨_, rfl⟩
        obtain ⟨Q, hQ⟩ : ∃ Q, high.go z = Q := ⟨_, rfl⟩
        rw [hP] at fp; rw [hQ] at fq
        rw [hP, hQ] at hnn
        have HTL : Hid (∀ W : World, Calls Try.prog 130 #[.agg #[.int .i64 low.up, .int .i64 low.down, .int .i64 low.turns, .int .i64 low.z], .int .i64 z] W fun e w' => e = .returned (.agg #[.int .i64 P.up, .int .i64 P.down, .int .i64 P.turns, .int .i64 P.z]) ∧ W.grownBy w' none) := fun W => to_is low z fl hz.1 hz.2 W (m := P) hP
        have HTH : Hid (∀ W : World, Calls Try.prog 130 #[.agg #[.int .i64 high.up, .int .i64 high.down, .int .i64 high.turns, .int .i64 high.z], .int .i64 z] W fun e w' => e = .returned (.agg #[.int .i64 Q.up, .int .i64 Q.down, .int .i64 Q.turns, .int .i64 Q.z]) ∧ W.grownBy w' none) := fun W => to_is high z fh hz.1 hz.2 W (m := Q) hQ
        have HBN : Hid (∀ W : World, W.cell? ⟨w.heap.size + 1, 0, none⟩ = some (.int .i64 th) → Calls Try.prog 128 #[.agg #[.int .i64 P.up, .int .i64 P.down, .int .i64 P.turns, .int .i64 P.z], .agg #[.int .i64 Q.up, .int .i64 Q.down, .int .i64 Q.turns, .int .i64 Q.z], .int .i64 0, .pointer (some ⟨w.heap.size + 1, 0, none⟩)] W fun e w' => e = .returned (.agg #[.int .i64 N.up, .int .i64 N.down, .int .i64 N.turns, .int .i64 N.z]) ∧ W.grownBy w' none) := fun W hW => better_is P Q 0 th (by omega) t0 t1 fp fq (w.heap.size + 1) W hW (r := N) hnn.symm
        have HBX : Hid (∀ W : World, W.cell? ⟨w.heap.size + 1, 0, none⟩ = some (.int .i64 th) → Calls Try.prog 128 #[.agg #[.int .i64 low.up, .int .i64 low.down, .int .i64 low.turns, .int .i64 low.z], .agg #[.int .i64 N.up, .int .i64 N.down, .int .i64 (N.turns + 1), .int .i64 N.z], .int .i64 (-1), .pointer (some ⟨w.heap.size + 1, 0, none⟩)] W fun e w' => e = .returned (.agg #[.int .i64 X.up, .int .i64 X.down, .int .i64 X.turns, .int .i64 X.z]) ∧ W.grownBy w' none) := fun W hW => better_is low N.more (-1) th (by omega) t0 t1 fl fm (w.heap.size + 1) W hW (r := X) hnx.symm
        have HBY : Hid (∀ W : World, W.cell? ⟨w.heap.size + 1, 0, none⟩ = some (.int .i64 th) → Calls Try.prog 128 #[.agg #[.int .i64 high.up, .int .i64 high.down, .int .i64 high.turns, .int .i64 high.z], .agg #[.int .i64 N.up, .int .i64 N.down, .int .i64 (N.turns + 1), .int .i64 N.z], .int .i64 1, .pointer (some ⟨w.heap.size + 1, 0, none⟩)] W fun e w' => e = .returned (.agg #[.int .i64 Y.up, .int .i64 Y.down, .int .i64 Y.turns, .int .i64 Y.z]) ∧ W.grownBy w' none) := fun W hW => better_is high N.more 1 th (by omega) t0 t1 fh fm (w.heap.size + 1) W hW (r := Y) hny.symm
        have nt0 : 0 ≤ N.turns := fn_.t0
        have nt1 : N.turns ≤ 100000 := fn_.t1
        clear hP hQ hnn hnx hny bp bq bn bm bx by_ fl fh fp fq fm fn_ hfit hst hbd hfin hfin2 hdr hz had hkk hk1
        have hXB := World.grownBy_alloc wr (.cells #[.int .i64 xt, .int .i64 xx, .int .i64 xy, .int .i64 z, .int .i64 xp, .int .i64 xq, .int .i64 xs] 28) none
        have HCX : Hid (ClS w th (wr.alloc (.cells #[.int .i64 xt, .int .i64 xx, .int .i64 xy, .int .i64 z, .int .i64 xp, .int .i64 xq, .int .i64 xs] 28)) w1.heap.size B C best low high) := Lib.hid (ClS.grown hcs.out hXB)
        have HCXd : Hid (ClS w th (wr.alloc (.cells #[.int .i64 xt, .int .i64 xx, .int .i64 xy, .int .i64 z, .int .i64 xp, .int .i64 xq, .int .i64 xs] 28)).drew w1.heap.size B C best low high) := Lib.hid (ClS.grown HCX.out (grown_drewN _ _ 1))
        have hBN := hcs.out.ha
        have hwrs : w.heap.size + 2 < wr.heap.size := by have := (Array.getElem?_eq_some_iff.1 hcs.out.a).1; omega
        have hAX : w1.heap.size < wr.heap.size := (Array.getElem?_eq_some_iff.1 hcs.out.a).1
        have hAB := hcs.out.ab; have hAC := hcs.out.ac
        have HSTEP : Hid (∀ W W' : World, (World.grownBy w W none ∧ World.cell? W ⟨w.heap.size + 1, 0, none⟩ = some (.int .i64 th) ∧ World.cell? W ⟨B, 0, none⟩ = some (.int .i64 low.up) ∧ World.cell? W ⟨B, 1, none⟩ = some (.int .i64 low.down) ∧ World.cell? W ⟨B, 2, none⟩ = some (.int .i64 low.turns) ∧ World.cell? W ⟨B, 3, none⟩ = some (.int .i64 low.z) ∧ World.cell? W ⟨C, 0, none⟩ = some (.int .i64 high.up) ∧ World.cell? W ⟨C, 1, none⟩ = some (.int .i64 high.down) ∧ World.cell? W ⟨C, 2, none⟩ = some (.int .i64 high.turns) ∧ World.cell? W ⟨C, 3, none⟩ = some (.int .i64 high.z) ∧ World.cell? W ⟨wr.heap.size, 3, none⟩ = some (.int .i64 z)) → W.grownBy W' none → (World.grownBy w W' none ∧ World.cell? W' ⟨w.heap.size + 1, 0, none⟩ = some (.int .i64 th) ∧ World.cell? W' ⟨B, 0, none⟩ = some (.int .i64 low.up) ∧ World.cell? W' ⟨B, 1, none⟩ = some (.int .i64 low.down) ∧ World.cell? W' ⟨B, 2, none⟩ = some (.int .i64 low.turns) ∧ World.cell? W' ⟨B, 3, none⟩ = some (.int .i64 low.z) ∧ World.cell? W' ⟨C, 0, none⟩ = some (.int .i64 high.up) ∧ World.cell? W' ⟨C, 1, none⟩ = some (.int .i64 high.down) ∧ World.cell? W' ⟨C, 2, none⟩ = some (.int .i64 high.turns) ∧ World.cell? W' ⟨C, 3, none⟩ = some (.int .i64 high.z) ∧ World.cell? W' ⟨wr.heap.size, 3, none⟩ = some (.int .i64 z))) := fun W W' h g => ⟨grown_trans h.1 g, grown_cell g h.2.1, grown_cell g h.2.2.1, grown_cell g h.2.2.2.1, grown_cell g h.2.2.2.2.1, grown_cell g h.2.2.2.2.2.1, grown_cell g h.2.2.2.2.2.2.1, grown_cell g h.2.2.2.2.2.2.2.1, grown_cell g h.2.2.2.2.2.2.2.2.1, grown_cell g h.2.2.2.2.2.2.2.2.2.1, grown_cell g h.2.2.2.2.2.2.2.2.2.2⟩
        have HSET : Hid (∀ (W : World) (g : Nat) (v0 v1 v2 v3 : Value), w.heap.size + 2 < g → (g ≠ B ∧ g ≠ C ∧ g ≠ wr.heap.size) → (World.grownBy w W none ∧ World.cell? W ⟨w.heap.size + 1, 0, none⟩ = some (.int .i64 th) ∧ World.cell? W ⟨B, 0, none⟩ = some (.int .i64 low.up) ∧ World.cell? W ⟨B, 1, none⟩ = some (.int .i64 low.down) ∧ World.cell? W ⟨B, 2, none⟩ = some (.int .i64 low.turns) ∧ World.cell? W ⟨B, 3, none⟩ = some (.int .i64 low.z) ∧ World.cell? W ⟨C, 0, none⟩ = some (.int .i64 high.up) ∧ World.cell? W ⟨C, 1, none⟩ = some (.int .i64 high.down) ∧ World.cell? W ⟨C, 2, none⟩ = some (.int .i64 high.turns) ∧ World.cell? W ⟨C, 3, none⟩ = some (.int .i64 high.z) ∧ World.cell? W ⟨wr.heap.size, 3, none⟩ = some (.int .i64 z)) → (World.grownBy w ((((World.setCell W ⟨g, 0, none⟩ v0).setCell ⟨g, 1, none⟩ v1).setCell ⟨g, 2, none⟩ v2).setCell ⟨g, 3, none⟩ v3) none ∧ World.cell? ((((World.setCell W ⟨g, 0, none⟩ v0).setCell ⟨g, 1, none⟩ v1).setCell ⟨g, 2, none⟩ v2).setCell ⟨g, 3, none⟩ v3) ⟨w.heap.size + 1, 0, none⟩ = some (.int .i64 th) ∧ World.cell? ((((World.setCell W ⟨g, 0, none⟩ v0).setCell ⟨g, 1, none⟩ v1).setCell ⟨g, 2, none⟩ v2).setCell ⟨g, 3, none⟩ v3) ⟨B, 0, none⟩ = some (.int .i64 low.up) ∧ World.cell? ((((World.setCell W ⟨g, 0, none⟩ v0).setCell ⟨g, 1, none⟩ v1).setCell ⟨g, 2, none⟩ v2).setCell ⟨g, 3, none⟩ v3) ⟨B, 1, none⟩ = some (.int .i64 low.down) ∧ World.cell? ((((World.setCell W ⟨g, 0, none⟩ v0).setCell ⟨g, 1, none⟩ v1).setCell ⟨g, 2, none⟩ v2).setCell ⟨g, 3, none⟩ v3) ⟨B, 2, none⟩ = some (.int .i64 low.turns) ∧ World.cell? ((((World.setCell W ⟨g, 0, none⟩ v0).setCell ⟨g, 1, none⟩ v1).setCell ⟨g, 2, none⟩ v2).setCell ⟨g, 3, none⟩ v3) ⟨B, 3, none⟩ = some (.int .i64 low.z) ∧ World.cell? ((((World.setCell W ⟨g, 0, none⟩ v0).setCell ⟨g, 1, none⟩ v1).setCell ⟨g, 2, none⟩ v2).setCell ⟨g, 3, none⟩ v3) ⟨C, 0, none⟩ = some (.int .i64 high.up) ∧ World.cell? ((((World.setCell W ⟨g, 0, none⟩ v0).setCell ⟨g, 1, none⟩ v1).setCell ⟨g, 2, none⟩ v2).setCell ⟨g, 3, none⟩ v3) ⟨C, 1, none⟩ = some (.int .i64 high.down) ∧ World.cell? ((((World.setCell W ⟨g, 0, none⟩ v0).setCell ⟨g, 1, none⟩ v1).setCell ⟨g, 2, none⟩ v2).setCell ⟨g, 3, none⟩ v3) ⟨C, 2, none⟩ = some (.int .i64 high.turns) ∧ World.cell? ((((World.setCell W ⟨g, 0, none⟩ v0).setCell ⟨g, 1, none⟩ v1).setCell ⟨g, 2, none⟩ v2).setCell ⟨g, 3, none⟩ v3) ⟨C, 3, none⟩ = some (.int .i64 high.z) ∧ World.cell? ((((World.setCell W ⟨g, 0, none⟩ v0).setCell ⟨g, 1, none⟩ v1).setCell ⟨g, 2, none⟩ v2).setCell ⟨g, 3, none⟩ v3) ⟨wr.heap.size, 3, none⟩ = some (.int .i64 z))) := fun W g v0 v1 v2 v3 q1 q2 h => by
          refine ⟨grown_set (grown_set (grown_set (grown_set h.1 (by omega) _ _) (by omega) _ _) (by omega) _ _) (by omega) _ _, ?_, ?_, ?_, ?_, ?_, ?_, ?_, ?_, ?_, ?_⟩
          · rw [World.cell?_setCell_other, World.cell?_setCell_other, World.cell?_setCell_other, World.cell?_setCell_other]
            · exact h.2.1
            all_goals (intro e; injection e with e1 _ _; omega)
          · rw [World.cell?_setCell_other, World.cell?_setCell_other, World.cell?_setCell_other, World.cell?_setCell_other]
            · exact h.2.2.1
            all_goals (intro e; injection e with e1 _ _; omega)
          · rw [World.cell?_setCell_other, World.cell?_setCell_other, World.cell?_setCell_other, World.cell?_setCell_other]
            · exact h.2.2.2.1
            all_goals (intro e; injection e with e1 _ _; omega)
          · rw [World.cell?_setCell_other, World.cell?_setCell_other, World.cell?_setCell_other, World.cell?_setCell_other]
            · exact h.2.2.2.2.1
            all_goals (intro e; injection e with e1 _ _; omega)
          · rw [World.cell?_setCell_other, World.cell?_setCell_other, World.cell?_setCell_other, World.cell?_setCell_other]
            · exact h.2.2.2.2.2.1
            all_goals (intro e; injection e with e1 _ _; omega)
          · rw [World.cell?_setCell_other, World.cell?_setCell_other, World.cell?_setCell_other, World.cell?_setCell_other]
            · exact h.2.2.2.2.2.2.1
            all_goals (intro e; injection e with e1 _ _; omega)
          · rw [World.cell?_setCell_other, World.cell?_setCell_other, World.cell?_setCell_other, World.cell?_setCell_other]
            · exact h.2.2.2.2.2.2.2.1
            all_goals (intro e; injection e with e1 _ _; omega)
          · rw [World.cell?_setCell_other, World.cell?_setCell_other, World.cell?_setCell_other, World.cell?_setCell_other]
            · exact h.2.2.2.2.2.2.2.2.1
            all_goals (intro e; injection e with e1 _ _; omega)
          · rw [World.cell?_setCell_other, World.cell?_setCell_other, World.cell?_setCell_other, World.cell?_setCell_other]
            · exact h.2.2.2.2.2.2.2.2.2.1
            all_goals (intro e; injection e with e1 _ _; omega)
          · rw [World.cell?_setCell_other, World.cell?_setCell_other, World.cell?_setCell_other, World.cell?_setCell_other]
            · exact h.2.2.2.2.2.2.2.2.2.2
            all_goals (intro e; injection e with e1 _ _; omega)
        have hcT : Hid (∀ W : World, (World.grownBy w W none ∧ World.cell? W ⟨w.heap.size + 1, 0, none⟩ = some (.int .i64 th) ∧ World.cell? W ⟨B, 0, none⟩ = some (.int .i64 low.up) ∧ World.cell? W ⟨B, 1, none⟩ = some (.int .i64 low.down) ∧ World.cell? W ⟨B, 2, none⟩ = some (.int .i64 low.turns) ∧ World.cell? W ⟨B, 3, none⟩ = some (.int .i64 low.z) ∧ World.cell? W ⟨C, 0, none⟩ = some (.int .i64 high.up) ∧ World.cell? W ⟨C, 1, none⟩ = some (.int .i64 high.down) ∧ World.cell? W ⟨C, 2, none⟩ = some (.int .i64 high.turns) ∧ World.cell? W ⟨C, 3, none⟩ = some (.int .i64 high.z) ∧ World.cell? W ⟨wr.heap.size, 3, none⟩ = some (.int .i64 z)) → World.cell? W ⟨w.heap.size + 1, 0, none⟩ = some (.int .i64 th)) := fun W h => h.2.1
        have HSD : Hid ((World.grownBy w (wr.alloc (.cells #[.int .i64 xt, .int .i64 xx, .int .i64 xy, .int .i64 z, .int .i64 xp, .int .i64 xq, .int .i64 xs] 28)).drew none ∧ World.cell? (wr.alloc (.cells #[.int .i64 xt, .int .i64 xx, .int .i64 xy, .int .i64 z, .int .i64 xp, .int .i64 xq, .int .i64 xs] 28)).drew ⟨w.heap.size + 1, 0, none⟩ = some (.int .i64 th) ∧ World.cell? (wr.alloc (.cells #[.int .i64 xt, .int .i64 xx, .int .i64 xy, .int .i64 z, .int .i64 xp, .int .i64 xq, .int .i64 xs] 28)).drew ⟨B, 0, none⟩ = some (.int .i64 low.up) ∧ World.cell? (wr.alloc (.cells #[.int .i64 xt, .int .i64 xx, .int .i64 xy, .int .i64 z, .int .i64 xp, .int .i64 xq, .int .i64 xs] 28)).drew ⟨B, 1, none⟩ = some (.int .i64 low.down) ∧ World.cell? (wr.alloc (.cells #[.int .i64 xt, .int .i64 xx, .int .i64 xy, .int .i64 z, .int .i64 xp, .int .i64 xq, .int .i64 xs] 28)).drew ⟨B, 2, none⟩ = some (.int .i64 low.turns) ∧ World.cell? (wr.alloc (.cells #[.int .i64 xt, .int .i64 xx, .int .i64 xy, .int .i64 z, .int .i64 xp, .int .i64 xq, .int .i64 xs] 28)).drew ⟨B, 3, none⟩ = some (.int .i64 low.z) ∧ World.cell? (wr.alloc (.cells #[.int .i64 xt, .int .i64 xx, .int .i64 xy, .int .i64 z, .int .i64 xp, .int .i64 xq, .int .i64 xs] 28)).drew ⟨C, 0, none⟩ = some (.int .i64 high.up) ∧ World.cell? (wr.alloc (.cells #[.int .i64 xt, .int .i64 xx, .int .i64 xy, .int .i64 z, .int .i64 xp, .int .i64 xq, .int .i64 xs] 28)).drew ⟨C, 1, none⟩ = some (.int .i64 high.down) ∧ World.cell? (wr.alloc (.cells #[.int .i64 xt, .int .i64 xx, .int .i64 xy, .int .i64 z, .int .i64 xp, .int .i64 xq, .int .i64 xs] 28)).drew ⟨C, 2, none⟩ = some (.int .i64 high.turns) ∧ World.cell? (wr.alloc (.cells #[.int .i64 xt, .int .i64 xx, .int .i64 xy, .int .i64 z, .int .i64 xp, .int .i64 xq, .int .i64 xs] 28)).drew ⟨C, 3, none⟩ = some (.int .i64 high.z) ∧ World.cell? (wr.alloc (.cells #[.int .i64 xt, .int .i64 xx, .int .i64 xy, .int .i64 z, .int .i64 xp, .int .i64 xq, .int .i64 xs] 28)).drew ⟨wr.heap.size, 3, none⟩ = some (.int .i64 z))) := by
          refine HSTEP.out (wr.alloc (.cells #[.int .i64 xt, .int .i64 xx, .int .i64 xy, .int .i64 z, .int .i64 xp, .int .i64 xq, .int .i64 xs] 28)) _ ⟨HCX.out.g, HCX.out.tz, HCX.out.b.cells.1, HCX.out.b.cells.2.1, HCX.out.b.cells.2.2.1, HCX.out.b.cells.2.2.2, HCX.out.c.cells.1, HCX.out.c.cells.2.1, HCX.out.c.cells.2.2.1, HCX.out.c.cells.2.2.2, by go_simp⟩ (grown_drewN _ _ 1)
        clear hXB
        go_upto_region 14 with (fail)
        clear c0 c1 c2 c3 c4 c5 c6
        go_cut [] (fun wx => ClS w th wx w1.heap.size B C N low high)
        case first => as_aux_lemma =>
          go_region_held3 (fun W => (World.grownBy w W none ∧ World.cell? W ⟨w.heap.size + 1, 0, none⟩ = some (.int .i64 th) ∧ World.cell? W ⟨B, 0, none⟩ = some (.int .i64 low.up) ∧ World.cell? W ⟨B, 1, none⟩ = some (.int .i64 low.down) ∧ World.cell? W ⟨B, 2, none⟩ = some (.int .i64 low.turns) ∧ World.cell? W ⟨B, 3, none⟩ = some (.int .i64 low.z) ∧ World.cell? W ⟨C, 0, none⟩ = some (.int .i64 high.up) ∧ World.cell? W ⟨C, 1, none⟩ = some (.int .i64 high.down) ∧ World.cell? W ⟨C, 2, none⟩ = some (.int .i64 high.turns) ∧ World.cell? W ⟨C, 3, none⟩ = some (.int .i64 high.z) ∧ World.cell? W ⟨wr.heap.size, 3, none⟩ = some (.int .i64 z))) (first | exact HSD.out | (refine HSTEP.out _ _ ?_ (by assumption) <;> assumption) | exact HSET.out _ _ _ _ _ _ hBN ⟨hAB, hAC, by omega⟩ (by assumption)) (first
            | (go_at_call 130; first | ((with_reducible refine (HTL.out _).mono ?_); rintro x w7 ⟨rfl, hg7⟩; have K7 : Hid (ClS w th w7 w1.heap.size B C best low high) := Lib.hid (ClS.grown (Hid.out (by assumption)) hg7)) | ((with_reducible refine (HTH.out _).mono ?_); rintro x w7 ⟨rfl, hg7⟩; have K7 : Hid (ClS w th w7 w1.heap.size B C best low high) := Lib.hid (ClS.grown (Hid.out (by assumption)) hg7)))
            | (go_at_call 128; (with_reducible refine (HBN.out _ (hcT.out _ (by assumption))).mono ?_); rintro x w8 ⟨rfl, hg8⟩; have K8 : Hid (ClS w th w8 w1.heap.size B C best low high) := Lib.hid (ClS.grown (Hid.out (by assumption)) hg8); have ka := K8.out.a.cells; obtain ⟨ka0, ka1, ka2, ka3⟩ := ka; have kf0 := K8.out.a.free 0; have kf1 := K8.out.a.free 1; have kf2 := K8.out.a.free 2; have kf3 := K8.out.a.free 3))
          all_goals
            go_wp2_with fail
            go_meet
            exact ClS.setA (Hid.out (by assumption)) N
        case rest =>
          have hc1 := hcut
          have KC := Lib.hid hc1
          have hB2 := hc1.hb; have hC2 := hc1.hc
          have hBD : B < wc.heap.size := (Array.getElem?_eq_some_iff.1 hc1.b).1
          have hCD : C < wc.heap.size := (Array.getElem?_eq_some_iff.1 hc1.c).1
          have hbc := hc1.bc
          have hcb : C ≠ B := fun e => hbc e.symm
          have ka := hc1.a.cells; obtain ⟨ka0, ka1, ka2, ka3⟩ := ka
          clear hc1 HCX HCXd HSTEP HSET HSD hcT hcut
          go_upto_region 17 with (fail)
          clear ka0 ka1 ka2 ka3
          have hMB := World.grownBy_alloc wc (.cells #[.int .i64 N.up, .int .i64 N.down, .int .i64 (N.turns + 1), .int .i64 N.z] 139) none
          have KM : Hid (ClS w th (wc.alloc (.cells #[.int .i64 N.up, .int .i64 N.down, .int .i64 (N.turns + 1), .int .i64 N.z] 139)) w1.heap.size B C N low high) := Lib.hid (ClS.grown KC.out hMB)
          have KMd : Hid (ClS w th (wc.alloc (.cells #[.int .i64 N.up, .int .i64 N.down, .int .i64 (N.turns + 1), .int .i64 N.z] 139)).drew w1.heap.size B C N low high) := Lib.hid (ClS.grown KM.out (grown_drewN _ _ 1))
          have HSTEP : Hid (∀ W W' : World, (World.grownBy w W none ∧ World.cell? W ⟨w.heap.size + 1, 0, none⟩ = some (.int .i64 th) ∧ World.cell? W ⟨wc.heap.size, 0, none⟩ = some (.int .i64 N.up) ∧ World.cell? W ⟨wc.heap.size, 1, none⟩ = some (.int .i64 N.down) ∧ World.cell? W ⟨wc.heap.size, 2, none⟩ = some (.int .i64 (N.turns + 1)) ∧ World.cell? W ⟨wc.heap.size, 3, none⟩ = some (.int .i64 N.z)) → W.grownBy W' none → (World.grownBy w W' none ∧ World.cell? W' ⟨w.heap.size + 1, 0, none⟩ = some (.int .i64 th) ∧ World.cell? W' ⟨wc.heap.size, 0, none⟩ = some (.int .i64 N.up) ∧ World.cell? W' ⟨wc.heap.size, 1, none⟩ = some (.int .i64 N.down) ∧ World.cell? W' ⟨wc.heap.size, 2, none⟩ = some (.int .i64 (N.turns + 1)) ∧ World.cell? W' ⟨wc.heap.size, 3, none⟩ = some (.int .i64 N.z))) := fun W W' h g => ⟨grown_trans h.1 g, grown_cell g h.2.1, grown_cell g h.2.2.1, grown_cell g h.2.2.2.1, grown_cell g h.2.2.2.2.1, grown_cell g h.2.2.2.2.2⟩
          have HSET : Hid (∀ (W : World) (g : Nat) (v0 v1 v2 v3 : Value), w.heap.size + 2 < g → g ≠ wc.heap.size → (World.grownBy w W none ∧ World.cell? W ⟨w.heap.size + 1, 0, none⟩ = some (.int .i64 th) ∧ World.cell? W ⟨wc.heap.size, 0, none⟩ = some (.int .i64 N.up) ∧ World.cell? W ⟨wc.heap.size, 1, none⟩ = some (.int .i64 N.down) ∧ World.cell? W ⟨wc.heap.size, 2, none⟩ = some (.int .i64 (N.turns + 1)) ∧ World.cell? W ⟨wc.heap.size, 3, none⟩ = some (.int .i64 N.z)) → (World.grownBy w ((((World.setCell W ⟨g, 0, none⟩ v0).setCell ⟨g, 1, none⟩ v1).setCell ⟨g, 2, none⟩ v2).setCell ⟨g, 3, none⟩ v3) none ∧ World.cell? ((((World.setCell W ⟨g, 0, none⟩ v0).setCell ⟨g, 1, none⟩ v1).setCell ⟨g, 2, none⟩ v2).setCell ⟨g, 3, none⟩ v3) ⟨w.heap.size + 1, 0, none⟩ = some (.int .i64 th) ∧ World.cell? ((((World.setCell W ⟨g, 0, none⟩ v0).setCell ⟨g, 1, none⟩ v1).setCell ⟨g, 2, none⟩ v2).setCell ⟨g, 3, none⟩ v3) ⟨wc.heap.size, 0, none⟩ = some (.int .i64 N.up) ∧ World.cell? ((((World.setCell W ⟨g, 0, none⟩ v0).setCell ⟨g, 1, none⟩ v1).setCell ⟨g, 2, none⟩ v2).setCell ⟨g, 3, none⟩ v3) ⟨wc.heap.size, 1, none⟩ = some (.int .i64 N.down) ∧ World.cell? ((((World.setCell W ⟨g, 0, none⟩ v0).setCell ⟨g, 1, none⟩ v1).setCell ⟨g, 2, none⟩ v2).setCell ⟨g, 3, none⟩ v3) ⟨wc.heap.size, 2, none⟩ = some (.int .i64 (N.turns + 1)) ∧ World.cell? ((((World.setCell W ⟨g, 0, none⟩ v0).setCell ⟨g, 1, none⟩ v1).setCell ⟨g, 2, none⟩ v2).setCell ⟨g, 3, none⟩ v3) ⟨wc.heap.size, 3, none⟩ = some (.int .i64 N.z))) := fun W g v0 v1 v2 v3 q1 q2 h => by
            refine ⟨grown_set (grown_set (grown_set (grown_set h.1 (by omega) _ _) (by omega) _ _) (by omega) _ _) (by omega) _ _, ?_, ?_, ?_, ?_, ?_⟩
            · rw [World.cell?_setCell_other, World.cell?_setCell_other, World.cell?_setCell_other, World.cell?_setCell_other]
              · exact h.2.1
              all_goals (intro e; injection e with e1 _ _; omega)
            · rw [World.cell?_setCell_other, World.cell?_setCell_other, World.cell?_setCell_other, World.cell?_setCell_other]
              · exact h.2.2.1
              all_goals (intro e; injection e with e1 _ _; omega)
            · rw [World.cell?_setCell_other, World.cell?_setCell_other, World.cell?_setCell_other, World.cell?_setCell_other]
              · exact h.2.2.2.1
              all_goals (intro e; injection e with e1 _ _; omega)
            · rw [World.cell?_setCell_other, World.cell?_setCell_other, World.cell?_setCell_other, World.cell?_setCell_other]
              · exact h.2.2.2.2.1
              all_goals (intro e; injection e with e1 _ _; omega)
            · rw [World.cell?_setCell_other, World.cell?_setCell_other, World.cell?_setCell_other, World.cell?_setCell_other]
              · exact h.2.2.2.2.2
              all_goals (intro e; injection e with e1 _ _; omega)
          have hcT : Hid (∀ W : World, (World.grownBy w W none ∧ World.cell? W ⟨w.heap.size + 1, 0, none⟩ = some (.int .i64 th) ∧ World.cell? W ⟨wc.heap.size, 0, none⟩ = some (.int .i64 N.up) ∧ World.cell? W ⟨wc.heap.size, 1, none⟩ = some (.int .i64 N.down) ∧ World.cell? W ⟨wc.heap.size, 2, none⟩ = some (.int .i64 (N.turns + 1)) ∧ World.cell? W ⟨wc.heap.size, 3, none⟩ = some (.int .i64 N.z)) → World.cell? W ⟨w.heap.size + 1, 0, none⟩ = some (.int .i64 th)) := fun W h => h.2.1
          have HSD : Hid ((World.grownBy w (wc.alloc (.cells #[.int .i64 N.up, .int .i64 N.down, .int .i64 (N.turns + 1), .int .i64 N.z] 139)).drew none ∧ World.cell? (wc.alloc (.cells #[.int .i64 N.up, .int .i64 N.down, .int .i64 (N.turns + 1), .int .i64 N.z] 139)).drew ⟨w.heap.size + 1, 0, none⟩ = some (.int .i64 th) ∧ World.cell? (wc.alloc (.cells #[.int .i64 N.up, .int .i64 N.down, .int .i64 (N.turns + 1), .int .i64 N.z] 139)).drew ⟨wc.heap.size, 0, none⟩ = some (.int .i64 N.up) ∧ World.cell? (wc.alloc (.cells #[.int .i64 N.up, .int .i64 N.down, .int .i64 (N.turns + 1), .int .i64 N.z] 139)).drew ⟨wc.heap.size, 1, none⟩ = some (.int .i64 N.down) ∧ World.cell? (wc.alloc (.cells #[.int .i64 N.up, .int .i64 N.down, .int .i64 (N.turns + 1), .int .i64 N.z] 139)).drew ⟨wc.heap.size, 2, none⟩ = some (.int .i64 (N.turns + 1)) ∧ World.cell? (wc.alloc (.cells #[.int .i64 N.up, .int .i64 N.down, .int .i64 (N.turns + 1), .int .i64 N.z] 139)).drew ⟨wc.heap.size, 3, none⟩ = some (.int .i64 N.z))) := by
            refine HSTEP.out (wc.alloc (.cells #[.int .i64 N.up, .int .i64 N.down, .int .i64 (N.turns + 1), .int .i64 N.z] 139)) _ ⟨KM.out.g, KM.out.tz, by go_simp, by go_simp, by go_simp, by go_simp⟩ (grown_drewN _ _ 1)
          clear hMB
          have hb := KC.out.b.cells; obtain ⟨hb0, hb1, hb2, hb3⟩ := hb
          have hd := KC.out.c.cells; obtain ⟨hd0, hd1, hd2, hd3⟩ := hd
          have he := KM.out.b.cells; obtain ⟨he0, he1, he2, he3⟩ := he
          have hf := KM.out.c.cells; obtain ⟨hf0, hf1, hf2, hf3⟩ := hf
          refine wp_region_noPanic ?_
          refine wp_region_held_drew (S := (fun W => (World.grownBy w W none ∧ World.cell? W ⟨w.heap.size + 1, 0, none⟩ = some (.int .i64 th) ∧ World.cell? W ⟨wc.heap.size, 0, none⟩ = some (.int .i64 N.up) ∧ World.cell? W ⟨wc.heap.size, 1, none⟩ = some (.int .i64 N.down) ∧ World.cell? W ⟨wc.heap.size, 2, none⟩ = some (.int .i64 (N.turns + 1)) ∧ World.cell? W ⟨wc.heap.size, 3, none⟩ = some (.int .i64 N.z)))) (by kernel_rfl) HSD.out (fun hHeld => ?_)
          refine wpAnyH_take (i := 0) (oi := { dst := some 63, op := Op.move (Operand.tmp 7), type := _, pos := _, after := #[], guard := none }) (v := ?_) rfl (by kernel_rfl) (by kernel_rfl) (by kernel_rfl) (fun _ _ _ h => h) (Or.inl ⟨by rfl, ?_⟩) (by assumption) ?_
          rotate_left
          · (intro w0 hSw; (try dsimp only at hSw); go_simp; try with_reducible rfl)
          try simp only [Act.put, List.setIfInBounds_toArray, List.set_cons_zero, List.set_cons_succ]
          refine wpAnyH_take (i := 2) (oi := { dst := some 65, op := Op.load 139 (Operand.tmp 13), type := 139, pos := _, after := #[], guard := none }) (v := ?_) rfl (by kernel_rfl) (by kernel_rfl) (by kernel_rfl) (fun _ _ _ h => h) (Or.inl ⟨by rfl, ?_⟩) (by assumption) ?_
          rotate_left
          · (intro w0 hSw; (try dsimp only at hSw); go_simp; try with_reducible rfl)
          try simp only [Act.put, List.setIfInBounds_toArray, List.set_cons_zero, List.set_cons_succ]
          refine wpAnyH_take (i := 4) (oi := { dst := some 67, op := Op.move (Operand.tmp 7), type := _, pos := _, after := #[], guard := none }) (v := ?_) rfl (by kernel_rfl) (by kernel_rfl) (by kernel_rfl) (fun _ _ _ h => h) (Or.inl ⟨by rfl, ?_⟩) (by assumption) ?_
          rotate_left
          · (intro w0 hSw; (try dsimp only at hSw); go_simp; try with_reducible rfl)
          try simp only [Act.put, List.setIfInBounds_toArray, List.set_cons_zero, List.set_cons_succ]
          refine wpAnyH_take (i := 6) (oi := { dst := some 69, op := Op.load 139 (Operand.tmp 13), type := 139, pos := _, after := #[], guard := none }) (v := ?_) rfl (by kernel_rfl) (by kernel_rfl) (by kernel_rfl) (fun _ _ _ h => h) (Or.inl ⟨by rfl, ?_⟩) (by assumption) ?_
          rotate_left
          · (intro w0 hSw; (try dsimp only at hSw); go_simp; try with_reducible rfl)
          try simp only [Act.put, List.setIfInBounds_toArray, List.set_cons_zero, List.set_cons_succ]
          refine wpAnyH_ready (rs := [1, 5]) (by kernel_rfl) (by simp) ?_
          refine AllReadyH.cons (o := { dst := some 64, op := Op.load 139 (Operand.tmp 9), type := 139, pos := _, after := #[], guard := none }) rfl (fun K hK => ?_) ?_
          · skip
            go_simp
            refine hK.out _ _ ?_ (fun hHeld => ?_)
            · (try dsimp only)
              first | (with_reducible exact HSD.out) | ((with_reducible refine HSTEP.out _ _ ?_ (by assumption)) <;> assumption) | (with_reducible exact HSET.out _ _ _ _ _ _ hB2 (Nat.ne_of_lt hBD) (by assumption)) | (with_reducible exact HSET.out _ _ _ _ _ _ hC2 (Nat.ne_of_lt hCD) (by assumption))
            clear hK K
            try simp only [Act.put, List.setIfInBounds_toArray, List.set_cons_zero, List.set_cons_succ]
            refine wpAnyH_ready (rs := [3, 5]) (by kernel_rfl) (by simp) ?_
            refine AllReadyH.cons (o := { dst := some 66, op := Op.call { callee := Callee.value (Operand.tmp 63), args := #[Operand.tmp 64, Operand.tmp 65, Operand.const (Value.int IntKind.i64 (-1))], argTypes := #[139, 139, 3] }, type := 139, pos := _, after := _, guard := none }) rfl (fun K hK => ?_) ?_
            · skip
              go_simp
              go_at_call 128
              with_reducible refine (HBX.out _ (hcT.out _ (by assumption))).mono ?_
              rintro x w7 ⟨rfl, hg7⟩; have K7 : Hid (ClS w th w7 w1.heap.size B C N low high) := Lib.hid (ClS.grown (Hid.out (by assumption)) hg7); have k7 := K7.out.c.cells; obtain ⟨k70, k71, k72, k73⟩ := k7
              try go_wp2_with fail
              refine hK.out _ _ ?_ (fun hHeld => ?_)
              · (try dsimp only)
                first | (with_reducible exact HSD.out) | ((with_reducible refine HSTEP.out _ _ ?_ (by assumption)) <;> assumption) | (with_reducible exact HSET.out _ _ _ _ _ _ hB2 (Nat.ne_of_lt hBD) (by assumption)) | (with_reducible exact HSET.out _ _ _ _ _ _ hC2 (Nat.ne_of_lt hCD) (by assumption))
              clear hK K
              try simp only [Act.put, List.setIfInBounds_toArray, List.set_cons_zero, List.set_cons_succ]
              refine wpAnyH_ready (rs := [5]) (by kernel_rfl) (by simp) ?_
              refine AllReadyH.cons (o := { dst := some 68, op := Op.load 139 (Operand.tmp 10), type := 139, pos := _, after := #[], guard := none }) rfl (fun K hK => ?_) AllReadyH.nil
              go_simp
              refine hK.out _ _ ?_ (fun hHeld => ?_)
              · (try dsimp only)
                first | (with_reducible exact HSD.out) | ((with_reducible refine HSTEP.out _ _ ?_ (by assumption)) <;> assumption) | (with_reducible exact HSET.out _ _ _ _ _ _ hB2 (Nat.ne_of_lt hBD) (by assumption)) | (with_reducible exact HSET.out _ _ _ _ _ _ hC2 (Nat.ne_of_lt hCD) (by assumption))
              clear hK K
              try simp only [Act.put, List.setIfInBounds_toArray, List.set_cons_zero, List.set_cons_succ]
              refine wpAnyH_ready (rs := [7]) (by kernel_rfl) (by simp) ?_
              refine AllReadyH.cons (o := { dst := some 70, op := Op.call { callee := Callee.value (Operand.tmp 67), args := #[Operand.tmp 68, Operand.tmp 69, Operand.const (Value.int IntKind.i64 1)], argTypes := #[139, 139, 3] }, type := 139, pos := _, after := _, guard := none }) rfl (fun K hK => ?_) AllReadyH.nil
              go_simp
              go_at_call 128
              with_reducible refine (HBY.out _ (hcT.out _ (by assumption))).mono ?_
              rintro x w8 ⟨rfl, hg8⟩; have K8 : Hid (ClS w th w8 w1.heap.size B C N low high) := Lib.hid (ClS.grown (Hid.out (by assumption)) hg8); have kb := K8.out.b.cells; have kc := K8.out.c.cells; obtain ⟨kb0, kb1, kb2, kb3⟩ := kb; obtain ⟨kc0, kc1, kc2, kc3⟩ := kc; have kf0 := K8.out.b.free 0; have kf1 := K8.out.b.free 1; have kf2 := K8.out.b.free 2; have kf3 := K8.out.b.free 3; have kg0 := K8.out.c.free 0; have kg1 := K8.out.c.free 1; have kg2 := K8.out.c.free 2; have kg3 := K8.out.c.free 3
              try go_wp2_with fail
              refine hK.out _ _ ?_ (fun hHeld => ?_)
              · (try dsimp only)
                first | (with_reducible exact HSD.out) | ((with_reducible refine HSTEP.out _ _ ?_ (by assumption)) <;> assumption) | (with_reducible exact HSET.out _ _ _ _ _ _ hB2 (Nat.ne_of_lt hBD) (by assumption)) | (with_reducible exact HSET.out _ _ _ _ _ _ hC2 (Nat.ne_of_lt hCD) (by assumption))
              clear hK K
              try simp only [Act.put, List.setIfInBounds_toArray, List.set_cons_zero, List.set_cons_succ]
              refine wpAnyH_ready (rs := [8]) (by kernel_rfl) (by simp) ?_
              refine AllReadyH.cons (o := { dst := none, op := Op.store 139 (Operand.tmp 9) (Operand.tmp 66), type := 0, pos := _, after := _, guard := none }) rfl (fun K hK => ?_) AllReadyH.nil
              go_simp
              refine hK.out _ _ ?_ (fun hHeld => ?_)
              · (try dsimp only)
                first | (with_reducible exact HSD.out) | ((with_reducible refine HSTEP.out _ _ ?_ (by assumption)) <;> assumption) | (with_reducible exact HSET.out _ _ _ _ _ _ hB2 (Nat.ne_of_lt hBD) (by assumption)) | (with_reducible exact HSET.out _ _ _ _ _ _ hC2 (Nat.ne_of_lt hCD) (by assumption))
              clear hK K
              try simp only [Act.put, List.setIfInBounds_toArray, List.set_cons_zero, List.set_cons_succ]
              refine wpAnyH_ready (rs := [9]) (by kernel_rfl) (by simp) ?_
              refine AllReadyH.cons (o := { dst := none, op := Op.store 139 (Operand.tmp 10) (Operand.tmp 70), type := 0, pos := _, after := _, guard := none }) rfl (fun K hK => ?_) AllReadyH.nil
              go_simp
              refine hK.out _ _ ?_ (fun hHeld => ?_)
              · (try dsimp only)
                first | (with_reducible exact HSD.out) | ((with_reducible refine HSTEP.out _ _ ?_ (by assumption)) <;> assumption) | (with_reducible exact HSET.out _ _ _ _ _ _ hB2 (Nat.ne_of_lt hBD) (by assumption)) | (with_reducible exact HSET.out _ _ _ _ _ _ hC2 (Nat.ne_of_lt hCD) (by assumption))
              clear hK K
              try simp only [Act.put, List.setIfInBounds_toArray, List.set_cons_zero, List.set_cons_succ]
              refine wpAnyH_done (by kernel_rfl) ?_ _
              refine NoPanic.normal ?_
              go_wp2_with fail
              go_roundw
              case rel => exact ⟨k + 1, N, X, Y, by omega, by go_num, ((((ClS.swap (Hid.out (by assumption))).setA X).swap.turn).setA Y).turn, HFIN.out, hbd2.out⟩
              case measure => simp [intOf]; omega
            refine AllReadyH.cons (o := { dst := some 68, op := Op.load 139 (Operand.tmp 10), type := 139, pos := _, after := #[], guard := none }) rfl (fun K hK => ?_) AllReadyH.nil
            go_simp
            refine hK.out _ _ ?_ (fun hHeld => ?_)
            · (try dsimp only)
              first | (with_reducible exact HSD.out) | ((with_reducible refine HSTEP.out _ _ ?_ (by assumption)) <;> assumption) | (with_reducible exact HSET.out _ _ _ _ _ _ hB2 (Nat.ne_of_lt hBD) (by assumption)) | (with_reducible exact HSET.out _ _ _ _ _ _ hC2 (Nat.ne_of_lt hCD) (by assumption))
            clear hK K
            try simp only [Act.put, List.setIfInBounds_toArray, List.set_cons_zero, List.set_cons_succ]
            refine wpAnyH_ready (rs := [3]) (by kernel_rfl) (by simp) ?_
            refine AllReadyH.cons (o := { dst := some 66, op := Op.call { callee := Callee.value (Operand.tmp 63), args := #[Operand.tmp 64, Operand.tmp 65, Operand.const (Value.int IntKind.i64 (-1))], argTypes := #[139, 139, 3] }, type := 139, pos := _, after := _, guard := none }) rfl (fun K hK => ?_) AllReadyH.nil
            go_simp
            go_at_call 128
            with_reducible refine (HBX.out _ (hcT.out _ (by assumption))).mono ?_
            rintro x w7 ⟨rfl, hg7⟩; have K7 : Hid (ClS w th w7 w1.heap.size B C N low high) := Lib.hid (ClS.grown (Hid.out (by assumption)) hg7); have k7 := K7.out.c.cells; obtain ⟨k70, k71, k72, k73⟩ := k7
            try go_wp2_with fail
            refine hK.out _ _ ?_ (fun hHeld => ?_)
            · (try dsimp only)
              first | (with_reducible exact HSD.out) | ((with_reducible refine HSTEP.out _ _ ?_ (by assumption)) <;> assumption) | (with_reducible exact HSET.out _ _ _ _ _ _ hB2 (Nat.ne_of_lt hBD) (by assumption)) | (with_reducible exact HSET.out _ _ _ _ _ _ hC2 (Nat.ne_of_lt hCD) (by assumption))
            clear hK K
            try simp only [Act.put, List.setIfInBounds_toArray, List.set_cons_zero, List.set_cons_succ]
            refine wpAnyH_ready (rs := [7]) (by kernel_rfl) (by simp) ?_
            refine AllReadyH.cons (o := { dst := some 70, op := Op.call { callee := Callee.value (Operand.tmp 67), args := #[Operand.tmp 68, Operand.tmp 69, Operand.const (Value.int IntKind.i64 1)], argTypes := #[139, 139, 3] }, type := 139, pos := _, after := _, guard := none }) rfl (fun K hK => ?_) AllReadyH.nil
            go_simp
            go_at_call 128
            with_reducible refine (HBY.out _ (hcT.out _ (by assumption))).mono ?_
            rintro x w8 ⟨rfl, hg8⟩; have K8 : Hid (ClS w th w8 w1.heap.size B C N low high) := Lib.hid (ClS.grown (Hid.out (by assumption)) hg8); have kb := K8.out.b.cells; have kc := K8.out.c.cells; obtain ⟨kb0, kb1, kb2, kb3⟩ := kb; obtain ⟨kc0, kc1, kc2, kc3⟩ := kc; have kf0 := K8.out.b.free 0; have kf1 := K8.out.b.free 1; have kf2 := K8.out.b.free 2; have kf3 := K8.out.b.free 3; have kg0 := K8.out.c.free 0; have kg1 := K8.out.c.free 1; have kg2 := K8.out.c.free 2; have kg3 := K8.out.c.free 3
            try go_wp2_with fail
            refine hK.out _ _ ?_ (fun hHeld => ?_)
            · (try dsimp only)
              first | (with_reducible exact HSD.out) | ((with_reducible refine HSTEP.out _ _ ?_ (by assumption)) <;> assumption) | (with_reducible exact HSET.out _ _ _ _ _ _ hB2 (Nat.ne_of_lt hBD) (by assumption)) | (with_reducible exact HSET.out _ _ _ _ _ _ hC2 (Nat.ne_of_lt hCD) (by assumption))
            clear hK K
            try simp only [Act.put, List.setIfInBounds_toArray, List.set_cons_zero, List.set_cons_succ]
            refine wpAnyH_ready (rs := [8]) (by kernel_rfl) (by simp) ?_
            refine AllReadyH.cons (o := { dst := none, op := Op.store 139 (Operand.tmp 9) (Operand.tmp 66), type := 0, pos := _, after := _, guard := none }) rfl (fun K hK => ?_) AllReadyH.nil
            go_simp
            refine hK.out _ _ ?_ (fun hHeld => ?_)
            · (try dsimp only)
              first | (with_reducible exact HSD.out) | ((with_reducible refine HSTEP.out _ _ ?_ (by assumption)) <;> assumption) | (with_reducible exact HSET.out _ _ _ _ _ _ hB2 (Nat.ne_of_lt hBD) (by assumption)) | (with_reducible exact HSET.out _ _ _ _ _ _ hC2 (Nat.ne_of_lt hCD) (by assumption))
            clear hK K
            try simp only [Act.put, List.setIfInBounds_toArray, List.set_cons_zero, List.set_cons_succ]
            refine wpAnyH_ready (rs := [9]) (by kernel_rfl) (by simp) ?_
            refine AllReadyH.cons (o := { dst := none, op := Op.store 139 (Operand.tmp 10) (Operand.tmp 70), type := 0, pos := _, after := _, guard := none }) rfl (fun K hK => ?_) AllReadyH.nil
            go_simp
            refine hK.out _ _ ?_ (fun hHeld => ?_)
            · (try dsimp only)
              first | (with_reducible exact HSD.out) | ((with_reducible refine HSTEP.out _ _ ?_ (by assumption)) <;> assumption) | (with_reducible exact HSET.out _ _ _ _ _ _ hB2 (Nat.ne_of_lt hBD) (by assumption)) | (with_reducible exact HSET.out _ _ _ _ _ _ hC2 (Nat.ne_of_lt hCD) (by assumption))
            clear hK K
            try simp only [Act.put, List.setIfInBounds_toArray, List.set_cons_zero, List.set_cons_succ]
            refine wpAnyH_done (by kernel_rfl) ?_ _
            refine NoPanic.normal ?_
            go_wp2_with fail
            go_roundw
            case rel => exact ⟨k + 1, N, X, Y, by omega, by go_num, ((((ClS.swap (Hid.out (by assumption))).setA X).swap.turn).setA Y).turn, HFIN.out, hbd2.out⟩
            case measure => simp [intOf]; omega
          refine AllReadyH.cons (o := { dst := some 68, op := Op.load 139 (Operand.tmp 10), type := 139, pos := _, after := #[], guard := none }) rfl (fun K hK => ?_) AllReadyH.nil
          go_simp
          refine hK.out _ _ ?_ (fun hHeld => ?_)
          · (try dsimp only)
            first | (with_reducible exact HSD.out) | ((with_reducible refine HSTEP.out _ _ ?_ (by assumption)) <;> assumption) | (with_reducible exact HSET.out _ _ _ _ _ _ hB2 (Nat.ne_of_lt hBD) (by assumption)) | (with_reducible exact HSET.out _ _ _ _ _ _ hC2 (Nat.ne_of_lt hCD) (by assumption))
          clear hK K
          try simp only [Act.put, List.setIfInBounds_toArray, List.set_cons_zero, List.set_cons_succ]
          refine wpAnyH_ready (rs := [1]) (by kernel_rfl) (by simp) ?_
          refine AllReadyH.cons (o := { dst := some 64, op := Op.load 139 (Operand.tmp 9), type := 139, pos := _, after := #[], guard := none }) rfl (fun K hK => ?_) AllReadyH.nil
          go_simp
          refine hK.out _ _ ?_ (fun hHeld => ?_)
          · (try dsimp only)
            first | (with_reducible exact HSD.out) | ((with_reducible refine HSTEP.out _ _ ?_ (by assumption)) <;> assumption) | (with_reducible exact HSET.out _ _ _ _ _ _ hB2 (Nat.ne_of_lt hBD) (by assumption)) | (with_reducible exact HSET.out _ _ _ _ _ _ hC2 (Nat.ne_of_lt hCD) (by assumption))
          clear hK K
          try simp only [Act.put, List.setIfInBounds_toArray, List.set_cons_zero, List.set_cons_succ]
          refine wpAnyH_ready (rs := [3]) (by kernel_rfl) (by simp) ?_
          refine AllReadyH.cons (o := { dst := some 66, op := Op.call { callee := Callee.value (Operand.tmp 63), args := #[Operand.tmp 64, Operand.tmp 65, Operand.const (Value.int IntKind.i64 (-1))], argTypes := #[139, 139, 3] }, type := 139, pos := _, after := _, guard := none }) rfl (fun K hK => ?_) AllReadyH.nil
          go_simp
          go_at_call 128
          with_reducible refine (HBX.out _ (hcT.out _ (by assumption))).mono ?_
          rintro x w7 ⟨rfl, hg7⟩; have K7 : Hid (ClS w th w7 w1.heap.size B C N low high) := Lib.hid (ClS.grown (Hid.out (by assumption)) hg7); have k7 := K7.out.c.cells; obtain ⟨k70, k71, k72, k73⟩ := k7
          try go_wp2_with fail
          refine hK.out _ _ ?_ (fun hHeld => ?_)
          · (try dsimp only)
            first | (with_reducible exact HSD.out) | ((with_reducible refine HSTEP.out _ _ ?_ (by assumption)) <;> assumption) | (with_reducible exact HSET.out _ _ _ _ _ _ hB2 (Nat.ne_of_lt hBD) (by assumption)) | (with_reducible exact HSET.out _ _ _ _ _ _ hC2 (Nat.ne_of_lt hCD) (by assumption))
          clear hK K
          try simp only [Act.put, List.setIfInBounds_toArray, List.set_cons_zero, List.set_cons_succ]
          refine wpAnyH_ready (rs := [7]) (by kernel_rfl) (by simp) ?_
          refine AllReadyH.cons (o := { dst := some 70, op := Op.call { callee := Callee.value (Operand.tmp 67), args := #[Operand.tmp 68, Operand.tmp 69, Operand.const (Value.int IntKind.i64 1)], argTypes := #[139, 139, 3] }, type := 139, pos := _, after := _, guard := none }) rfl (fun K hK => ?_) AllReadyH.nil
          go_simp
          go_at_call 128
          with_reducible refine (HBY.out _ (hcT.out _ (by assumption))).mono ?_
          rintro x w8 ⟨rfl, hg8⟩; have K8 : Hid (ClS w th w8 w1.heap.size B C N low high) := Lib.hid (ClS.grown (Hid.out (by assumption)) hg8); have kb := K8.out.b.cells; have kc := K8.out.c.cells; obtain ⟨kb0, kb1, kb2, kb3⟩ := kb; obtain ⟨kc0, kc1, kc2, kc3⟩ := kc; have kf0 := K8.out.b.free 0; have kf1 := K8.out.b.free 1; have kf2 := K8.out.b.free 2; have kf3 := K8.out.b.free 3; have kg0 := K8.out.c.free 0; have kg1 := K8.out.c.free 1; have kg2 := K8.out.c.free 2; have kg3 := K8.out.c.free 3
          try go_wp2_with fail
          refine hK.out _ _ ?_ (fun hHeld => ?_)
          · (try dsimp only)
            first | (with_reducible exact HSD.out) | ((with_reducible refine HSTEP.out _ _ ?_ (by assumption)) <;> assumption) | (with_reducible exact HSET.out _ _ _ _ _ _ hB2 (Nat.ne_of_lt hBD) (by assumption)) | (with_reducible exact HSET.out _ _ _ _ _ _ hC2 (Nat.ne_of_lt hCD) (by assumption))
          clear hK K
          try simp only [Act.put, List.setIfInBounds_toArray, List.set_cons_zero, List.set_cons_succ]
          refine wpAnyH_ready (rs := [8]) (by kernel_rfl) (by simp) ?_
          refine AllReadyH.cons (o := { dst := none, op := Op.store 139 (Operand.tmp 9) (Operand.tmp 66), type := 0, pos := _, after := _, guard := none }) rfl (fun K hK => ?_) AllReadyH.nil
          go_simp
          refine hK.out _ _ ?_ (fun hHeld => ?_)
          · (try dsimp only)
            first | (with_reducible exact HSD.out) | ((with_reducible refine HSTEP.out _ _ ?_ (by assumption)) <;> assumption) | (with_reducible exact HSET.out _ _ _ _ _ _ hB2 (Nat.ne_of_lt hBD) (by assumption)) | (with_reducible exact HSET.out _ _ _ _ _ _ hC2 (Nat.ne_of_lt hCD) (by assumption))
          clear hK K
          try simp only [Act.put, List.setIfInBounds_toArray, List.set_cons_zero, List.set_cons_succ]
          refine wpAnyH_ready (rs := [9]) (by kernel_rfl) (by simp) ?_
          refine AllReadyH.cons (o := { dst := none, op := Op.store 139 (Operand.tmp 10) (Operand.tmp 70), type := 0, pos := _, after := _, guard := none }) rfl (fun K hK => ?_) AllReadyH.nil
          go_simp
          refine hK.out _ _ ?_ (fun hHeld => ?_)
          · (try dsimp only)
            first | (with_reducible exact HSD.out) | ((with_reducible refine HSTEP.out _ _ ?_ (by assumption)) <;> assumption) | (with_reducible exact HSET.out _ _ _ _ _ _ hB2 (Nat.ne_of_lt hBD) (by assumption)) | (with_reducible exact HSET.out _ _ _ _ _ _ hC2 (Nat.ne_of_lt hCD) (by assumption))
          clear hK K
          try simp only [Act.put, List.setIfInBounds_toArray, List.set_cons_zero, List.set_cons_succ]
          refine wpAnyH_done (by kernel_rfl) ?_ _
          refine NoPanic.normal ?_
          go_wp2_with fail
          go_roundw
          case rel => exact ⟨k + 1, N, X, Y, by omega, by go_num, ((((ClS.swap (Hid.out (by assumption))).setA X).swap.turn).setA Y).turn, HFIN.out, hbd2.out⟩
          case measure => simp [intOf]; omega
      · have hkm : k = m := by omega
        have hf := hfin.out
        have hdn : (ss.drop 1).drop k = [] := by rw [List.drop_drop]; exact List.drop_eq_nil_of_le (by have := HM1.out; omega)
        rw [hdn] at hf
        simp only [climbS] at hf
        subst hf
        obtain ⟨q0, q1, q2, q3⟩ := hcs.out.a.cells
        have hkz := hcs.out.kz
        have z0 : wr.cell? ⟨w.heap.size + 1 + 1, 0, none⟩ = some (.int .i64 0) := by simp [World.cell?, hkz]
        have z1 : wr.cell? ⟨w.heap.size + 1 + 1, 1, none⟩ = some (.int .i64 0) := by simp [World.cell?, hkz]
        have z2 : wr.cell? ⟨w.heap.size + 1 + 1, 2, none⟩ = some (.int .i64 0) := by simp [World.cell?, hkz]
        have y0 : wr.frozen? ⟨w.heap.size + 1 + 1, 0, none⟩ = false := by simp [World.frozen?, hkz]
        have y1 : wr.frozen? ⟨w.heap.size + 1 + 1, 1, none⟩ = false := by simp [World.frozen?, hkz]
        have y2 : wr.frozen? ⟨w.heap.size + 1 + 1, 2, none⟩ = false := by simp [World.frozen?, hkz]
        have HG := Lib.hid hcs.out.g
        clear hcs hfin hbd hdn hkz
        go_wp2_with fail
        refine bodyPost_ret (v := .tuple #[.agg #[.int .i64 best.up, .int .i64 best.down, .int .i64 best.turns], .int .i64 0]) (by simp [results, Try.results68, go_sem, z0, z1, z2]) rfl ⟨rfl, ?_⟩
        exact grown_set (grown_set (grown_set HG.out (by omega) _ _) (by omega) _ _) (by omega) _ _

end Go.Proofs.Ytgkhhfojioepgaa
