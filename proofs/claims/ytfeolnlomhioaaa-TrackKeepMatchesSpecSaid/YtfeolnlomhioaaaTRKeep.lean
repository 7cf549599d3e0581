/- The reference's Keep where there is an answer: the walk. -/
import Derived.Test.YtfeolnlomhioaaaTKeepL
import Derived.Deep.DeepCutAuto
import Derived.Deep.CutBlock
namespace Go.Proofs.Ytfeolnlomhioaaa
open Go.RowKit

set_option maxHeartbeats 1600000 in
theorem ragree_is (p q : Smp) (hp : inPlane p) (hq : inPlane q) (fast : Int) (f0 : 1 ≤ fast) (f1 : fast ≤ 100000) (t0 : 0 ≤ q.t - p.t) (t1 : q.t - p.t ≤ 1000000) (w : World) {b : Bool} (h : Hid (agr p q fast = b)) :
    Calls Try.prog 76 #[.agg #[.int .i64 p.t, .int .i64 p.x, .int .i64 p.y, .int .i64 p.z, .int .i64 p.p, .int .i64 p.q, .int .i64 p.s], .agg #[.int .i64 q.t, .int .i64 q.x, .int .i64 q.y, .int .i64 q.z, .int .i64 q.p, .int .i64 q.q, .int .i64 q.s], .int .i64 fast] w fun e w' => e = .returned (.bool b) ∧ w.grownBy w' none := by
  have hb := far_bd f0 f1 t0 t1
  have hs := sqP_bd hp hq
  have hv := h.out
  rw [agr_far hp hq f0 f1 t0 t1] at hv
  have hF0 : fast * (q.t - p.t) = farV p q fast := rfl
  obtain ⟨F, hF⟩ : ∃ F, farV p q fast = F := ⟨_, rfl⟩
  obtain ⟨S, hS⟩ : ∃ S, sqP p q = S := ⟨_, rfl⟩
  rw [hF] at hv hb hF0
  rw [hS] at hv hs
  obtain ⟨d, hd⟩ : ∃ d, q.t - p.t = d := ⟨_, rfl⟩
  rw [hd] at hF0 t0 t1
  have rd : IntKind.i64.wrap (q.t - p.t) = d := by rw [hd]; exact IntWalk.i64_in _ (by omega)
  have rF : IntKind.i64.wrap (fast * d) = F := by rw [hF0]; exact IntWalk.i64_in _ (by omega)
  have HS := Lib.hid hS; have HP := Lib.hid hp; have HQ := Lib.hid hq; have HV := Lib.hid hv
  by_cases c : 400000000 ≤ F
  · have HV2 : Hid (true = b) := by show _ = _; rw [← hv, if_pos c]
    have g1 : decide ((400000000 : Int) ≤ F) = true := by simp; omega
    clear hv HV hS hp hq hd hF hF0 h f0 f1 hs hb t0 t1
    obtain ⟨pt, px, py, pz, pp, pq, ps⟩ := p
    obtain ⟨qt, qx, qy, qz, qp, qq, qs⟩ := q
    simp only at rd ⊢
    go_enter Try.func76, Try.ntmps76
    go_wp2_with fail
    go_ret
    exact ⟨ret_bool HV2.out, grown_trans (World.grownBy_alloc _ _ _) (World.grownBy_alloc _ _ _)⟩
  · have hsq := sq_up hb.1 (show F ≤ 400000000 by omega)
    have hsq0 := Int.mul_nonneg hb.1 hb.1
    obtain ⟨Q, hQ⟩ : ∃ Q, F * F = Q := ⟨_, rfl⟩
    rw [hQ] at hsq hsq0
    have rQ : IntKind.i64.wrap (F * F) = Q := by rw [hQ]; exact IntWalk.i64_in _ (by omega)
    have HV2 : Hid (decide (S ≤ Q) = b) := by show _ = _; rw [← hv, if_neg c, hQ]
    have g1 : decide ((400000000 : Int) ≤ F) = false := by simp; omega
    clear hv HV hS hp hq hd hF hF0 h f0 f1 hs hb t0 t1 hQ hsq hsq0
    obtain ⟨pt, px, py, pz, pp, pq, ps⟩ := p
    obtain ⟨qt, qx, qy, qz, qp, qq, qs⟩ := q
    simp only at rd ⊢
    go_enter Try.func76, Try.ntmps76
    go_wp2_with fail
    refine (apart_is ⟨pt, px, py, pz, pp, pq, ps⟩ ⟨qt, qx, qy, qz, qp, qq, qs⟩ HP.out HQ.out _ HS).mono ?_; rintro e w7 ⟨rfl, hg7⟩
    have G := Lib.hid (grown_trans (grown_trans (World.grownBy_alloc w (.cells #[.int .i64 pt, .int .i64 px, .int .i64 py, .int .i64 pz, .int .i64 pp, .int .i64 pq, .int .i64 ps] 38) none) (World.grownBy_alloc _ (.cells #[.int .i64 qt, .int .i64 qx, .int .i64 qy, .int .i64 qz, .int .i64 qp, .int .i64 qq, .int .i64 qs] 38) none)) hg7)
    clear hg7
    go_wp2_with fail
    go_ret
    exact ⟨ret_bool HV2.out, G.out⟩

/-- The memory of the reference's Keep: the box of the activity, and two rows. -/
structure KrM (w : World) (so : Option Addr) (sn sc R T n : Nat) (F G : Nat → Int) (W : World) : Prop where
  b3 : W.cell? ⟨w.heap.size, 3, none⟩ = some (.slice so sn sc)
  r1 : RowAt W R n F
  r2 : RowAt W T n G
  g : Below w.heap.size w W
section
variable {w : World} {so : Option Addr} {sn sc R T n : Nat} {F G : Nat → Int} {W W' : World}
theorem KrM.grown (h : KrM w so sn sc R T n F G W) (hg : W.grownBy W' none) : KrM w so sn sc R T n F G W' :=
  ⟨grown_cell hg h.b3, h.r1.grown hg, h.r2.grown hg, h.g.trans ((below_grown hg).mono h.g.size)⟩
theorem KrM.set1 (h : KrM w so sn sc R T n F G W) (hR : w.heap.size < R ∧ w.heap.size < T ∧ R ≠ T) (k : Nat) (v : Int) : KrM w so sn sc R T n (updI F k v) G (W.setCell ⟨R, k, none⟩ (.int .i64 v)) :=
  ⟨by rw [World.cell?_setCell_other _ _ _ _ (fun e => by injection e with e; omega)]; exact h.b3, h.r1.set k v, h.r2.far hR.2.2.symm k _, h.g.setCell (by show _ ≤ R; omega) _⟩
theorem KrM.set2 (h : KrM w so sn sc R T n F G W) (hR : w.heap.size < R ∧ w.heap.size < T ∧ R ≠ T) (k : Nat) (v : Int) : KrM w so sn sc R T n F (updI G k v) (W.setCell ⟨T, k, none⟩ (.int .i64 v)) :=
  ⟨by rw [World.cell?_setCell_other _ _ _ _ (fun e => by injection e with e; omega)]; exact h.b3, h.r1.far hR.2.2 k _, h.r2.set k v, h.g.setCell (by show _ ≤ T; omega) _⟩
theorem KrM.congr (h : KrM w so sn sc R T n F G W) {F' G' : Nat → Int} (e1 : ∀ k, k < n → F k = F' k) (e2 : ∀ k, k < n → G k = G' k) : KrM w so sn sc R T n F' G' W :=
  ⟨h.b3, h.r1.congr e1, h.r2.congr e2, h.g⟩
end
theorem kr_new {w w1 : World} {so : Option Addr} {sn sc n : Nat} {F G : Nat → Int} (b3 : w1.cell? ⟨w.heap.size, 3, none⟩ = some (.slice so sn sc)) (g : Below w.heap.size w w1) (h : w.heap.size < w1.heap.size) (hF : ∀ k, k < n → F k = 0) (hG : ∀ k, k < n → G k = 0) :
    KrM w so sn sc w1.heap.size (w1.heap.size + 1) n F G ((w1.alloc (.cells (madeCells #[.int .i64 0] n) 3)).alloc (.cells (madeCells #[.int .i64 0] n) 3)) ∧ KrM w so sn sc (w1.heap.size + 1) w1.heap.size n F G ((w1.alloc (.cells (madeCells #[.int .i64 0] n) 3)).alloc (.cells (madeCells #[.int .i64 0] n) 3)) := by
  have hb := grown_cell (grown_trans (World.grownBy_alloc w1 (.cells (madeCells #[.int .i64 0] n) 3) none) (World.grownBy_alloc _ (.cells (madeCells #[.int .i64 0] n) 3) none)) b3
  have gg := (g.alloc (Nat.le_of_lt h) (.cells (madeCells #[.int .i64 0] n) 3)).alloc (by simp; omega) (.cells (madeCells #[.int .i64 0] n) 3)
  have a : ∀ (H : Nat → Int), (∀ k, k < n → H k = 0) → RowAt ((w1.alloc (.cells (madeCells #[.int .i64 0] n) 3)).alloc (.cells (madeCells #[.int .i64 0] n) 3)) w1.heap.size n H ∧ RowAt ((w1.alloc (.cells (madeCells #[.int .i64 0] n) 3)).alloc (.cells (madeCells #[.int .i64 0] n) 3)) (w1.heap.size + 1) n H := fun H hH => by
    have e : madeCells #[Value.int .i64 0] n = iRow n H := by rw [iRow_zero, iRow_congr (G := H) (fun k hk => (hH k hk).symm)]
    constructor
    · unfold RowAt
      rw [Below.heap_alloc _ _ _ (by simp), heap_alloc_new, e]
    · have q := heap_alloc_new (w1.alloc (.cells (madeCells #[.int .i64 0] n) 3)) (.cells (madeCells #[.int .i64 0] n) 3)
      unfold RowAt
      rw [← e]
      simpa using q
  exact ⟨⟨hb, (a F hF).1, (a G hG).2, gg⟩, ⟨hb, (a F hF).2, (a G hG).1, gg⟩⟩
/-- The reference writes numbers as they are. -/
def encN (x : Nat) : Int := (x : Int)
def rowH (n : Nat) (ag : Nat → Nat → Bool) (d m : Nat) : Nat → Int := updI (rowK n ag encN d) (n - 1 - d) ((nxt n (kpV n ag d).1 (ag (n - 1 - d)) m : Nat) : Int)
theorem rowH_at {n : Nat} {ag : Nat → Nat → Bool} {d m : Nat} : rowH n ag d m (n - 1 - d) = ((nxt n (kpV n ag d).1 (ag (n - 1 - d)) m : Nat) : Int) := by
  unfold rowH updI; rw [if_pos rfl]
theorem rowH_stay {n : Nat} {ag : Nat → Nat → Bool} {d m j : Nat} (hj : j = n - 1 - m) (h : ¬ (ag (n - 1 - d) j = true ∧ (kpV n ag d).1 (nxt n (kpV n ag d).1 (ag (n - 1 - d)) m) ≤ (kpV n ag d).1 j)) : rowH n ag d (m + 1) = rowH n ag d m := by
  subst hj
  have e : nxt n (kpV n ag d).1 (ag (n - 1 - d)) (m + 1) = nxt n (kpV n ag d).1 (ag (n - 1 - d)) m := by rw [nxt, if_neg h]
  unfold rowH; rw [e]
theorem rowH_go {n : Nat} {ag : Nat → Nat → Bool} {d m j : Nat} (hj : j = n - 1 - m) (h1 : ag (n - 1 - d) j = true) (h2 : (kpV n ag d).1 (nxt n (kpV n ag d).1 (ag (n - 1 - d)) m) ≤ (kpV n ag d).1 j) : rowH n ag d (m + 1) = updI (rowH n ag d m) (n - 1 - d) (j : Int) := by
  subst hj
  have e : nxt n (kpV n ag d).1 (ag (n - 1 - d)) (m + 1) = n - 1 - m := by rw [nxt, if_pos ⟨h1, h2⟩]
  unfold rowH; rw [updI_twice, e]
theorem rowH_zero (n : Nat) (ag : Nat → Nat → Bool) (d : Nat) : rowH n ag d 0 = updI (rowK n ag encN d) (n - 1 - d) ((n : Nat) : Int) := by
  unfold rowH nxt; rfl
theorem rowH_end {n : Nat} {ag : Nat → Nat → Bool} {d : Nat} (h : d < n) : rowH n ag d d = rowK n ag encN (d + 1) := by
  rw [rowK_succ n ag encN h rfl]; rfl
theorem kpF_succ {n : Nat} {ag : Nat → Nat → Bool} {d : Nat} : (fun k => (((kpV n ag (d + 1)).1 k : Nat) : Int)) = updI (fun k => (((kpV n ag d).1 k : Nat) : Int)) (n - 1 - d) ((((kpV n ag d).1 (nxt n (kpV n ag d).1 (ag (n - 1 - d)) d) : Nat) : Int) + 1) := by
  funext k
  show ((if k = n - 1 - d then (kpV n ag d).1 (nxt n (kpV n ag d).1 (ag (n - 1 - d)) d) + 1 else (kpV n ag d).1 k : Nat) : Int) = _
  unfold updI; split <;> simp

set_option maxRecDepth 100000 in
set_option maxHeartbeats 24000000 in
theorem rKeep_ok (nm : ByteArray) (sp st : Int) (so : Option Addr) (sc : Nat) (ss : List Smp) (lo : Option Addr) (lc : Nat) (ls : List LapV) (to_ : Option Addr) (tc : Nat) (ts : List ByteArray) (fast : Int) (f0 : 1 ≤ fast) (f1 : fast ≤ 100000) (hl : (ss.length : Int) ≤ 2000) (w : World)
    (HA : Hid (ActAt w ⟨nm, sp, st, so, sc, ss, lo, lc, ls, to_, tc, ts⟩)) (HCE : Hid (chkE ⟨nm, sp, st, so, sc, ss, lo, lc, ls, to_, tc, ts⟩ = 0)) (HP : Hid (∀ x ∈ ss, inPlane x)) (HT : Hid (∀ i j, i < j → j < ss.length → 0 ≤ (smpD ss j).t - (smpD ss i).t ∧ (smpD ss j).t - (smpD ss i).t ≤ 1000000)) :
    Calls Try.prog 27 #[.agg #[.string nm, .int .i64 sp, .int .i64 st, .slice so ss.length sc, .slice lo ls.length lc, .slice to_ ts.length tc], .int .i64 fast] w fun x w' => (∃ v k, x = .returned (.tuple #[v, .int .i64 0]) ∧ PthEnd ss.length (nextK ss.length (agS ss fast)) (kpV ss.length (agS ss fast) ss.length).2 k ∧ w'.ownsRow w.heap.size 3 1 v k (pthVs (nextK ss.length (agS ss fast)) (kpV ss.length (agS ss fast) ss.length).2 k)) ∧ w.grownBy w' none := by
  have hll : ss.length ≤ 2000 := by omega
  have hmk0 := run_make_row' (P := Try.prog) 45 3 (.int .i64 0) 8 Try.underlying45 info_int rfl .i64 .i64 (ss.length + 1) (by omega) (by omega)
  have hmk : ∀ (w : World), Sem.run Try.prog (Instr.makeSlice 45 (.int .i64 ((ss.length : Int) + 1)) (.int .i64 ((ss.length : Int) + 1))) w = .ok (.slice (some ⟨w.heap.size, 0, none⟩) (ss.length + 1) (ss.length + 1)) (w.alloc (.cells (madeCells #[.int .i64 0] (ss.length + 1)) 3)) := fun w => hmk0 w
  clear hmk0
  obtain ⟨ag, hag⟩ : ∃ ag, agS ss fast = ag := ⟨_, rfl⟩
  have HAG := Lib.hid hag
  rw [hag]
  clear hag
  go_enter Try.func27, Try.ntmps27
  go_wp2_with fail
  refine (rcheck_any ⟨nm, sp, st, so, sc, ss, lo, lc, ls, to_, tc, ts⟩ _ (HA.out.grown (World.grownBy_alloc _ _ _)) HCE).mono ?_; rintro e w1 ⟨rfl, hg1⟩
  have G1 : w.grownBy w1 none := grown_trans (World.grownBy_alloc w (.cells #[.string nm, .int .i64 sp, .int .i64 st, .slice so ss.length sc, .slice lo ls.length lc, .slice to_ ts.length tc] 26) none) hg1
  have b3 : w1.cell? ⟨w.heap.size, 3, none⟩ = some (.slice so ss.length sc) := grown_cell hg1 (by go_simp)
  have hR0 : w.heap.size < w1.heap.size := by have := hg1.size; simp at this; omega
  have HAS := Lib.hid (HA.out.hs)
  clear hg1
  have GW := Lib.hid G1
  have HR0 : Hid (w.heap.size < w1.heap.size) := hR0
  have HB3 := Lib.hid b3
  clear G1 hR0
  go_wp2_with fail
  refine (rout_no _ _ _ f0 f1 _).mono ?_; rintro e w2 ⟨rfl, rfl⟩
  have hcap : decide ((2000 : Int) < (ss.length : Int)) = false := by simp; omega
  have rlen : IntKind.i64.wrap ((ss.length : Int) - 1) = (ss.length : Int) - 1 := IntWalk.i64_in _ (by omega)
  have rlen1 : IntKind.i64.wrap ((ss.length : Int) + 1) = (ss.length : Int) + 1 := IntWalk.i64_in _ (by omega)
  have HK := Lib.hid (kr_new (w := w) (w1 := w1.drew) (so := so) (sn := ss.length) (sc := sc) (n := ss.length + 1) (F := fun k => ((kpV ss.length ag 0).1 k : Nat)) (G := rowK ss.length ag encN 0) HB3.out (below_grown (grown_trans GW.out (grown_drewN _ _ 1))) HR0.out (fun k _ => by simp [kpV]) (fun k _ => by unfold rowK; rw [if_neg (by omega)]))
  go_upto_region 9 with (fail)
  go_cut [8, 9] (fun s8 s9 wx => ∃ R T, s8 = .slice (some ⟨R, 0, none⟩) (ss.length + 1) (ss.length + 1) ∧ s9 = .slice (some ⟨T, 0, none⟩) (ss.length + 1) (ss.length + 1) ∧ KrM w so ss.length sc R T (ss.length + 1) (fun k => ((kpV ss.length ag 0).1 k : Nat)) (rowK ss.length ag encN 0) wx ∧ (w.heap.size < R ∧ w.heap.size < T ∧ R ≠ T))
  case first =>
    go_region
    all_goals
      go_wp2_with fail
      go_meet
      have h0 := HR0.out
      first
        | exact ⟨_, _, rfl, rfl, HK.out.1, h0, by omega, by omega⟩
        | exact ⟨_, _, rfl, rfl, HK.out.2, by omega, h0, by omega⟩
  case rest =>
    obtain ⟨R, T, rfl, rfl, hM0, hRT⟩ := hcut
    have HM0 := Lib.hid hM0
    have HR := Lib.hid hRT
    have HL := Lib.hid hll
    clear hM0 hRT b3 hmk HK
    have b3 := HM0.out.b3
    go_wp2_with fail
    go_loopw [10, 11] (fun fv iv wr => ∃ (d : Nat), d ≤ ss.length ∧ fv = .int .i64 ((kpV ss.length ag d).2 : Nat) ∧ iv = .int .i64 ((ss.length : Int) - 1 - d) ∧ Hid (KrM w so ss.length sc R T (ss.length + 1) (fun k => ((kpV ss.length ag d).1 k : Nat)) (rowK ss.length ag encN d) wr))
      (fun _ iv _ => (intOf iv + 1).toNat)
    case atStart => exact ⟨0, Nat.zero_le _, rfl, by go_num, HM0.out⟩
    case round =>
      obtain ⟨d, hd, rfl, rfl, hM⟩ := hrel
      have b3 := hM.out.b3
      by_cases hlt : d < ss.length
      · obtain ⟨i, hi⟩ : ∃ i : Nat, i = ss.length - 1 - d := ⟨_, rfl⟩
        have hi2 : (ss.length : Int) - 1 - (d : Int) = (i : Int) := by omega
        have HI := Lib.hid hi
        rw [hi2]
        have hin : i < ss.length := by omega
        have hin2 : (i : Int) < (ss.length : Int) := by omega
        have hin3 : (i : Int) < (ss.length : Int) + 1 := by omega
        have hi0 : (0 : Int) ≤ (i : Int) := by omega
        have c1 := hM.out.r2.cell (k := i) (by omega)
        have fr1 := hM.out.r2.free i
        have HM2 : Hid (KrM w so ss.length sc R T (ss.length + 1) (fun k => ((kpV ss.length ag d).1 k : Nat)) (rowH ss.length ag d 0) (wr.setCell ⟨T, i, none⟩ (.int .i64 (ss.length : Nat)))) := by
          show KrM _ _ _ _ _ _ _ _ _ _
          rw [rowH_zero, ← hi]
          exact hM.out.set2 HR.out i _
        have b33 := HM2.out.b3
        clear hM hi
        obtain ⟨f, hf⟩ : ∃ f, (kpV ss.length ag d).2 = f := ⟨_, rfl⟩
        rw [hf]
        have HF := Lib.hid hf
        have HFN : Hid (f ≤ ss.length) := by show _ ≤ _; rw [← hf]; exact (kp_bd ss.length ag d (by omega)).2.2.1
        clear hf
        go_wp2_with fail
        clear c1 fr1 b3 b33
        go_loopw [12] (fun jv wi => ∃ (m : Nat), m ≤ d ∧ jv = .int .i64 ((ss.length : Int) - 1 - m) ∧ Hid (KrM w so ss.length sc R T (ss.length + 1) (fun k => ((kpV ss.length ag d).1 k : Nat)) (rowH ss.length ag d m) wi))
          (fun jv _ => (intOf jv + 1).toNat)
        case atStart => exact ⟨0, Nat.zero_le _, by go_num, HM2.out⟩
        case round =>
          obtain ⟨m, hm, rfl, hMi⟩ := hrel
          have hnx := nxt_in ss.length (kpV ss.length ag d).1 (ag (ss.length - 1 - d)) m (by omega)
          have c2 : wr.cell? ⟨T, i, none⟩ = some (.int .i64 (nxt ss.length (kpV ss.length ag d).1 (ag (ss.length - 1 - d)) m : Nat)) := by
            have q := hMi.out.r2.cell (k := ss.length - 1 - d) (by omega)
            rw [rowH_at] at q
            rw [HI.out]; exact q
          have c3 : wr.cell? ⟨R, nxt ss.length (kpV ss.length ag d).1 (ag (ss.length - 1 - d)) m, none⟩ = some (.int .i64 ((kpV ss.length ag d).1 (nxt ss.length (kpV ss.length ag d).1 (ag (ss.length - 1 - d)) m) : Nat)) := hMi.out.r1.cell (by omega)
          have hbd := (kp_bd ss.length ag d (by omega)).1
          obtain ⟨x, hx⟩ : ∃ x, nxt ss.length (kpV ss.length ag d).1 (ag (ss.length - 1 - d)) m = x := ⟨_, rfl⟩
          rw [hx] at hnx c2 c3
          obtain ⟨v, hv⟩ : ∃ v, (kpV ss.length ag d).1 x = v := ⟨_, rfl⟩
          rw [hv] at c3
          have hvb : v ≤ 2000 := by rw [← hv]; exact Nat.le_trans (hbd x) (by omega)
          have HX := Lib.hid hx; have HV := Lib.hid hv
          have hxn2 : (x : Int) < (ss.length : Int) + 1 := by omega
          have hx0 : (0 : Int) ≤ (x : Int) := by omega
          clear hx hv
          by_cases hml : m < d
          · obtain ⟨j, hj⟩ : ∃ j : Nat, j = ss.length - 1 - m := ⟨_, rfl⟩
            have hj2 : (ss.length : Int) - 1 - (m : Int) = (j : Int) := by omega
            have HJ := Lib.hid hj
            have hij : i < j := by have := HI.out; omega
            have hjn : j < ss.length := by omega
            have hjn2 : (j : Int) < (ss.length : Int) := by omega
            have hjn3 : (j : Int) < (ss.length : Int) + 1 := by omega
            have hj0 : (0 : Int) ≤ (j : Int) := by omega
            have hji : (i : Int) < (j : Int) := by omega
            rw [hj2]
            have c1 : wr.cell? ⟨R, j, none⟩ = some (.int .i64 ((kpV ss.length ag d).1 j : Nat)) := hMi.out.r1.cell (by omega)
            obtain ⟨u, hu⟩ : ∃ u, (kpV ss.length ag d).1 j = u := ⟨_, rfl⟩
            have hub : u ≤ 2000 := by rw [← hu]; exact Nat.le_trans (hbd j) (by omega)
            rw [hu] at c1
            have HU := Lib.hid hu
            have b3 := hMi.out.b3
            clear hbd hu hj
            obtain ⟨b, off, rfl⟩ : ∃ b off, so = some ⟨b, off, none⟩ := by
              have hne : ss ≠ [] := fun h => by rw [h] at hin; simp at hin
              cases so with
              | none => exact absurd (HAS.out.nil rfl) hne
              | some p =>
                obtain ⟨b, off, spot⟩ := p
                have hsp := HAS.out.spot _ rfl hne
                simp only at hsp
                subst hsp
                exact ⟨b, off, rfl⟩
            have HSW := HAS.out.grown (grown_below hMi.out.g)
            obtain ⟨p0, p1, p2, p3, p4, p5, p6⟩ := HSW.cells _ rfl i hin
            obtain ⟨q0, q1, q2, q3, q4, q5, q6⟩ := HSW.cells _ rfl j hjn
            rw [← smpD_at hin] at p0 p1 p2 p3 p4 p5 p6
            rw [← smpD_at hjn] at q0 q1 q2 q3 q4 q5 q6
            have HPP := Lib.hid (smpD_plane HP.out i)
            have HQP := Lib.hid (smpD_plane HP.out j)
            have HTT := Lib.hid (HT.out i j hij hjn)
            obtain ⟨bb, hbb⟩ : ∃ bb, ag i j = bb := ⟨_, rfl⟩
            have HB : Hid (agr (smpD ss i) (smpD ss j) fast = bb) := by show _ = _; rw [← hbb, ← HAG.out]; rfl
            have HBB := Lib.hid hbb
            clear HSW hbb
            generalize smpD ss i = P at *
            generalize smpD ss j = Q at *
            obtain ⟨pt, px, py, pz, pp, pq, ps⟩ := P
            obtain ⟨qt, qx, qy, qz, qp, qq, qs⟩ := Q
            simp only at p0 p1 p2 p3 p4 p5 p6 q0 q1 q2 q3 q4 q5 q6
            cases bb with
            | false =>
              have hS0 : (wr.grownBy wr none ∧ World.cell? wr ⟨w.heap.size, 3, none⟩ = some (.slice (some ⟨b, off, none⟩) ss.length sc) ∧ World.cell? wr ⟨b, off + i * 7, none⟩ = some (.int .i64 pt) ∧ World.cell? wr ⟨b, off + i * 7 + 1, none⟩ = some (.int .i64 px) ∧ World.cell? wr ⟨b, off + i * 7 + 2, none⟩ = some (.int .i64 py) ∧ World.cell? wr ⟨b, off + i * 7 + 3, none⟩ = some (.int .i64 pz) ∧ World.cell? wr ⟨b, off + i * 7 + 4, none⟩ = some (.int .i64 pp) ∧ World.cell? wr ⟨b, off + i * 7 + 5, none⟩ = some (.int .i64 pq) ∧ World.cell? wr ⟨b, off + i * 7 + 6, none⟩ = some (.int .i64 ps) ∧ World.cell? wr ⟨b, off + j * 7, none⟩ = some (.int .i64 qt) ∧ World.cell? wr ⟨b, off + j * 7 + 1, none⟩ = some (.int .i64 qx) ∧ World.cell? wr ⟨b, off + j * 7 + 2, none⟩ = some (.int .i64 qy) ∧ World.cell? wr ⟨b, off + j * 7 + 3, none⟩ = some (.int .i64 qz) ∧ World.cell? wr ⟨b, off + j * 7 + 4, none⟩ = some (.int .i64 qp) ∧ World.cell? wr ⟨b, off + j * 7 + 5, none⟩ = some (.int .i64 qq) ∧ World.cell? wr ⟨b, off + j * 7 + 6, none⟩ = some (.int .i64 qs)) := ⟨grown_refl _ _, b3, p0, p1, p2, p3, p4, p5, p6, q0, q1, q2, q3, q4, q5, q6⟩
              have hstep : ∀ W W' : World, (wr.grownBy W none ∧ World.cell? W ⟨w.heap.size, 3, none⟩ = some (.slice (some ⟨b, off, none⟩) ss.length sc) ∧ World.cell? W ⟨b, off + i * 7, none⟩ = some (.int .i64 pt) ∧ World.cell? W ⟨b, off + i * 7 + 1, none⟩ = some (.int .i64 px) ∧ World.cell? W ⟨b, off + i * 7 + 2, none⟩ = some (.int .i64 py) ∧ World.cell? W ⟨b, off + i * 7 + 3, none⟩ = some (.int .i64 pz) ∧ World.cell? W ⟨b, off + i * 7 + 4, none⟩ = some (.int .i64 pp) ∧ World.cell? W ⟨b, off + i * 7 + 5, none⟩ = some (.int .i64 pq) ∧ World.cell? W ⟨b, off + i * 7 + 6, none⟩ = some (.int .i64 ps) ∧ World.cell? W ⟨b, off + j * 7, none⟩ = some (.int .i64 qt) ∧ World.cell? W ⟨b, off + j * 7 + 1, none⟩ = some (.int .i64 qx) ∧ World.cell? W ⟨b, off + j * 7 + 2, none⟩ = some (.int .i64 qy) ∧ World.cell? W ⟨b, off + j * 7 + 3, none⟩ = some (.int .i64 qz) ∧ World.cell? W ⟨b, off + j * 7 + 4, none⟩ = some (.int .i64 qp) ∧ World.cell? W ⟨b, off + j * 7 + 5, none⟩ = some (.int .i64 qq) ∧ World.cell? W ⟨b, off + j * 7 + 6, none⟩ = some (.int .i64 qs)) → W.grownBy W' none → (wr.grownBy W' none ∧ World.cell? W' ⟨w.heap.size, 3, none⟩ = some (.slice (some ⟨b, off, none⟩) ss.length sc) ∧ World.cell? W' ⟨b, off + i * 7, none⟩ = some (.int .i64 pt) ∧ World.cell? W' ⟨b, off + i * 7 + 1, none⟩ = some (.int .i64 px) ∧ World.cell? W' ⟨b, off + i * 7 + 2, none⟩ = some (.int .i64 py) ∧ World.cell? W' ⟨b, off + i * 7 + 3, none⟩ = some (.int .i64 pz) ∧ World.cell? W' ⟨b, off + i * 7 + 4, none⟩ = some (.int .i64 pp) ∧ World.cell? W' ⟨b, off + i * 7 + 5, none⟩ = some (.int .i64 pq) ∧ World.cell? W' ⟨b, off + i * 7 + 6, none⟩ = some (.int .i64 ps) ∧ World.cell? W' ⟨b, off + j * 7, none⟩ = some (.int .i64 qt) ∧ World.cell? W' ⟨b, off + j * 7 + 1, none⟩ = some (.int .i64 qx) ∧ World.cell? W' ⟨b, off + j * 7 + 2, none⟩ = some (.int .i64 qy) ∧ World.cell? W' ⟨b, off + j * 7 + 3, none⟩ = some (.int .i64 qz) ∧ World.cell? W' ⟨b, off + j * 7 + 4, none⟩ = some (.int .i64 qp) ∧ World.cell? W' ⟨b, off + j * 7 + 5, none⟩ = some (.int .i64 qq) ∧ World.cell? W' ⟨b, off + j * 7 + 6, none⟩ = some (.int .i64 qs)) := fun W W' h g => ⟨grown_trans h.1 g, grown_cell g h.2.1, grown_cell g h.2.2.1, grown_cell g h.2.2.2.1, grown_cell g h.2.2.2.2.1, grown_cell g h.2.2.2.2.2.1, grown_cell g h.2.2.2.2.2.2.1, grown_cell g h.2.2.2.2.2.2.2.1, grown_cell g h.2.2.2.2.2.2.2.2.1, grown_cell g h.2.2.2.2.2.2.2.2.2.1, grown_cell g h.2.2.2.2.2.2.2.2.2.2.1, grown_cell g h.2.2.2.2.2.2.2.2.2.2.2.1, grown_cell g h.2.2.2.2.2.2.2.2.2.2.2.2.1, grown_cell g h.2.2.2.2.2.2.2.2.2.2.2.2.2.1, grown_cell g h.2.2.2.2.2.2.2.2.2.2.2.2.2.2.1, grown_cell g h.2.2.2.2.2.2.2.2.2.2.2.2.2.2.2⟩
              have hSd : (wr.grownBy wr.drew none ∧ World.cell? wr.drew ⟨w.heap.size, 3, none⟩ = some (.slice (some ⟨b, off, none⟩) ss.length sc) ∧ World.cell? wr.drew ⟨b, off + i * 7, none⟩ = some (.int .i64 pt) ∧ World.cell? wr.drew ⟨b, off + i * 7 + 1, none⟩ = some (.int .i64 px) ∧ World.cell? wr.drew ⟨b, off + i * 7 + 2, none⟩ = some (.int .i64 py) ∧ World.cell? wr.drew ⟨b, off + i * 7 + 3, none⟩ = some (.int .i64 pz) ∧ World.cell? wr.drew ⟨b, off + i * 7 + 4, none⟩ = some (.int .i64 pp) ∧ World.cell? wr.drew ⟨b, off + i * 7 + 5, none⟩ = some (.int .i64 pq) ∧ World.cell? wr.drew ⟨b, off + i * 7 + 6, none⟩ = some (.int .i64 ps) ∧ World.cell? wr.drew ⟨b, off + j * 7, none⟩ = some (.int .i64 qt) ∧ World.cell? wr.drew ⟨b, off + j * 7 + 1, none⟩ = some (.int .i64 qx) ∧ World.cell? wr.drew ⟨b, off + j * 7 + 2, none⟩ = some (.int .i64 qy) ∧ World.cell? wr.drew ⟨b, off + j * 7 + 3, none⟩ = some (.int .i64 qz) ∧ World.cell? wr.drew ⟨b, off + j * 7 + 4, none⟩ = some (.int .i64 qp) ∧ World.cell? wr.drew ⟨b, off + j * 7 + 5, none⟩ = some (.int .i64 qq) ∧ World.cell? wr.drew ⟨b, off + j * 7 + 6, none⟩ = some (.int .i64 qs)) := hstep _ _ hS0 (grown_drewN _ _ 1)
              have HSTEP := Lib.hid hstep; have HSD := Lib.hid hSd
              clear hS0 hstep hSd
              go_wp2_with fail
              clear b3 c1 c2 c3 p0 p1 p2 p3 p4 p5 p6 q0 q1 q2 q3 q4 q5 q6
              refine wp_region_held_drew (S := fun W => (wr.grownBy W none ∧ World.cell? W ⟨w.heap.size, 3, none⟩ = some (.slice (some ⟨b, off, none⟩) ss.length sc) ∧ World.cell? W ⟨b, off + i * 7, none⟩ = some (.int .i64 pt) ∧ World.cell? W ⟨b, off + i * 7 + 1, none⟩ = some (.int .i64 px) ∧ World.cell? W ⟨b, off + i * 7 + 2, none⟩ = some (.int .i64 py) ∧ World.cell? W ⟨b, off + i * 7 + 3, none⟩ = some (.int .i64 pz) ∧ World.cell? W ⟨b, off + i * 7 + 4, none⟩ = some (.int .i64 pp) ∧ World.cell? W ⟨b, off + i * 7 + 5, none⟩ = some (.int .i64 pq) ∧ World.cell? W ⟨b, off + i * 7 + 6, none⟩ = some (.int .i64 ps) ∧ World.cell? W ⟨b, off + j * 7, none⟩ = some (.int .i64 qt) ∧ World.cell? W ⟨b, off + j * 7 + 1, none⟩ = some (.int .i64 qx) ∧ World.cell? W ⟨b, off + j * 7 + 2, none⟩ = some (.int .i64 qy) ∧ World.cell? W ⟨b, off + j * 7 + 3, none⟩ = some (.int .i64 qz) ∧ World.cell? W ⟨b, off + j * 7 + 4, none⟩ = some (.int .i64 qp) ∧ World.cell? W ⟨b, off + j * 7 + 5, none⟩ = some (.int .i64 qq) ∧ World.cell? W ⟨b, off + j * 7 + 6, none⟩ = some (.int .i64 qs))) (by kernel_rfl) HSD.out (fun hHeld => ?_)
              refine wpAnyH_take (i := 0) (oi := ?oi0) (v := .pointer (some ⟨w.heap.size, 3, none⟩)) ?hi0 (by kernel_rfl) (by kernel_rfl) (by kernel_rfl) ?hq0 ?hy0 hHeld ?rest0
              case hi0 => simp only [List.getElem?_toArray, List.getElem?_cons_succ, List.getElem?_cons_zero, Option.some.injEq]; rfl
              case hq0 => exact fun _ _ _ h => h
              case hy0 =>
                refine Or.inl ⟨by rfl, fun V hV => ?_⟩
                clear hV
                go_simp
              try simp only [Go.Act.put, List.setIfInBounds_toArray, List.set_cons_zero, List.set_cons_succ]
              refine wpAnyH_take (i := 1) (oi := ?oi1) (v := .slice (some ⟨b, off, none⟩) ss.length sc) ?hi1 (by kernel_rfl) (by kernel_rfl) (by kernel_rfl) ?hq1 ?hy1 hHeld ?rest1
              case hi1 => simp only [List.getElem?_toArray, List.getElem?_cons_succ, List.getElem?_cons_zero, Option.some.injEq]; rfl
              case hq1 => exact fun _ _ _ h => h
              case hy1 =>
                refine Or.inl ⟨by rfl, fun V hV => ?_⟩
                obtain ⟨_, z1, z2, z3, z4, z5, z6, z7, z8, z9, z10, z11, z12, z13, z14, z15⟩ := hV
                go_simp
              try simp only [Go.Act.put, List.setIfInBounds_toArray, List.set_cons_zero, List.set_cons_succ]
              refine wpAnyH_take (i := 2) (oi := ?oi2) (v := .int .i64 (i : Nat)) ?hi2 (by kernel_rfl) (by kernel_rfl) (by kernel_rfl) ?hq2 ?hy2 hHeld ?rest2
              case hi2 => simp only [List.getElem?_toArray, List.getElem?_cons_succ, List.getElem?_cons_zero, Option.some.injEq]; rfl
              case hq2 => exact fun _ _ _ h => h
              case hy2 =>
                refine Or.inl ⟨by rfl, fun V hV => ?_⟩
                clear hV
                go_simp
              try simp only [Go.Act.put, List.setIfInBounds_toArray, List.set_cons_zero, List.set_cons_succ]
              refine wpAnyH_take (i := 3) (oi := ?oi3) (v := .pointer (some ⟨b, off + i * 7, none⟩)) ?hi3 (by kernel_rfl) (by kernel_rfl) (by kernel_rfl) ?hq3 ?hy3 hHeld ?rest3
              case hi3 => simp only [List.getElem?_toArray, List.getElem?_cons_succ, List.getElem?_cons_zero, Option.some.injEq]; rfl
              case hq3 => exact fun _ _ _ h => h
              case hy3 =>
                refine Or.inl ⟨by rfl, fun V hV => ?_⟩
                clear hV
                go_simp
              try simp only [Go.Act.put, List.setIfInBounds_toArray, List.set_cons_zero, List.set_cons_succ]
              refine wpAnyH_take (i := 4) (oi := ?oi4) (v := .agg #[.int .i64 pt, .int .i64 px, .int .i64 py, .int .i64 pz, .int .i64 pp, .int .i64 pq, .int .i64 ps]) ?hi4 (by kernel_rfl) (by kernel_rfl) (by kernel_rfl) ?hq4 ?hy4 hHeld ?rest4
              case hi4 => simp only [List.getElem?_toArray, List.getElem?_cons_succ, List.getElem?_cons_zero, Option.some.injEq]; rfl
              case hq4 => exact fun _ _ _ h => h
              case hy4 =>
                refine Or.inl ⟨by rfl, fun V hV => ?_⟩
                obtain ⟨_, z1, z2, z3, z4, z5, z6, z7, z8, z9, z10, z11, z12, z13, z14, z15⟩ := hV
                go_simp
              try simp only [Go.Act.put, List.setIfInBounds_toArray, List.set_cons_zero, List.set_cons_succ]
              refine wpAnyH_take (i := 5) (oi := ?oi5) (v := .pointer (some ⟨w.heap.size, 3, none⟩)) ?hi5 (by kernel_rfl) (by kernel_rfl) (by kernel_rfl) ?hq5 ?hy5 hHeld ?rest5
              case hi5 => simp only [List.getElem?_toArray, List.getElem?_cons_succ, List.getElem?_cons_zero, Option.some.injEq]; rfl
              case hq5 => exact fun _ _ _ h => h
              case hy5 =>
                refine Or.inl ⟨by rfl, fun V hV => ?_⟩
                clear hV
                go_simp
              try simp only [Go.Act.put, List.setIfInBounds_toArray, List.set_cons_zero, List.set_cons_succ]
              refine wpAnyH_take (i := 6) (oi := ?oi6) (v := .slice (some ⟨b, off, none⟩) ss.length sc) ?hi6 (by kernel_rfl) (by kernel_rfl) (by kernel_rfl) ?hq6 ?hy6 hHeld ?rest6
              case hi6 => simp only [List.getElem?_toArray, List.getElem?_cons_succ, List.getElem?_cons_zero, Option.some.injEq]; rfl
              case hq6 => exact fun _ _ _ h => h
              case hy6 =>
                refine Or.inl ⟨by rfl, fun V hV => ?_⟩
                obtain ⟨_, z1, z2, z3, z4, z5, z6, z7, z8, z9, z10, z11, z12, z13, z14, z15⟩ := hV
                go_simp
              try simp only [Go.Act.put, List.setIfInBounds_toArray, List.set_cons_zero, List.set_cons_succ]
              refine wpAnyH_take (i := 7) (oi := ?oi7) (v := .int .i64 (j : Nat)) ?hi7 (by kernel_rfl) (by kernel_rfl) (by kernel_rfl) ?hq7 ?hy7 hHeld ?rest7
              case hi7 => simp only [List.getElem?_toArray, List.getElem?_cons_succ, List.getElem?_cons_zero, Option.some.injEq]; rfl
              case hq7 => exact fun _ _ _ h => h
              case hy7 =>
                refine Or.inl ⟨by rfl, fun V hV => ?_⟩
                clear hV
                go_simp
              try simp only [Go.Act.put, List.setIfInBounds_toArray, List.set_cons_zero, List.set_cons_succ]
              refine wpAnyH_take (i := 8) (oi := ?oi8) (v := .pointer (some ⟨b, off + j * 7, none⟩)) ?hi8 (by kernel_rfl) (by kernel_rfl) (by kernel_rfl) ?hq8 ?hy8 hHeld ?rest8
              case hi8 => simp only [List.getElem?_toArray, List.getElem?_cons_succ, List.getElem?_cons_zero, Option.some.injEq]; rfl
              case hq8 => exact fun _ _ _ h => h
              case hy8 =>
                refine Or.inl ⟨by rfl, fun V hV => ?_⟩
                clear hV
                go_simp
              try simp only [Go.Act.put, List.setIfInBounds_toArray, List.set_cons_zero, List.set_cons_succ]
              refine wpAnyH_take (i := 9) (oi := ?oi9) (v := .agg #[.int .i64 qt, .int .i64 qx, .int .i64 qy, .int .i64 qz, .int .i64 qp, .int .i64 qq, .int .i64 qs]) ?hi9 (by kernel_rfl) (by kernel_rfl) (by kernel_rfl) ?hq9 ?hy9 hHeld ?rest9
              case hi9 => simp only [List.getElem?_toArray, List.getElem?_cons_succ, List.getElem?_cons_zero, Option.some.injEq]; rfl
              case hq9 => exact fun _ _ _ h => h
              case hy9 =>
                refine Or.inl ⟨by rfl, fun V hV => ?_⟩
                obtain ⟨_, z1, z2, z3, z4, z5, z6, z7, z8, z9, z10, z11, z12, z13, z14, z15⟩ := hV
                go_simp
              try simp only [Go.Act.put, List.setIfInBounds_toArray, List.set_cons_zero, List.set_cons_succ]
              refine wpAnyH_take (i := 10) (oi := ?oi10) (v := .int .i64 fast) ?hi10 (by kernel_rfl) (by kernel_rfl) (by kernel_rfl) ?hq10 ?hy10 hHeld ?rest10
              case hi10 => simp only [List.getElem?_toArray, List.getElem?_cons_succ, List.getElem?_cons_zero, Option.some.injEq]; rfl
              case hq10 => exact fun _ _ _ h => h
              case hy10 =>
                refine Or.inl ⟨by rfl, fun V hV => ?_⟩
                clear hV
                go_simp
              try simp only [Go.Act.put, List.setIfInBounds_toArray, List.set_cons_zero, List.set_cons_succ]
              refine wpAnyH_ready (rs := [11]) (by kernel_rfl) (by simp) ?_
              refine AllReadyH.cons rfl (fun K hK => ?_) AllReadyH.nil
              go_simp
              refine (ragree_is ⟨pt, px, py, pz, pp, pq, ps⟩ ⟨qt, qx, qy, qz, qp, qq, qs⟩ HPP.out HQP.out fast f0 f1 HTT.out.1 HTT.out.2 _ HB).mono ?_
              rintro e w9 ⟨rfl, hg9⟩
              refine hK.out _ _ (HSTEP.out _ _ hHeld hg9) (fun hHeld1 => ?_)
              clear hK K
              try simp only [Go.Act.put, List.setIfInBounds_toArray, List.set_cons_zero, List.set_cons_succ]
              refine wpAnyH_take (i := 12) (oi := ?oi12) (v := .bool false) ?hi12 (by kernel_rfl) (by kernel_rfl) (by kernel_rfl) ?hq12 ?hy12 hHeld1 ?rest12
              case hi12 => simp only [List.getElem?_toArray, List.getElem?_cons_succ, List.getElem?_cons_zero, Option.some.injEq]; rfl
              case hq12 => exact fun _ _ _ h => h
              case hy12 =>
                refine Or.inl ⟨by rfl, fun V hV => ?_⟩
                clear hV
                go_simp
              try simp only [Go.Act.put, List.setIfInBounds_toArray, List.set_cons_zero, List.set_cons_succ]
              refine wpAnyH_take (i := 13) (oi := ?oi13) (v := undef) ?hi13 (by kernel_rfl) (by kernel_rfl) (by kernel_rfl) ?hq13 ?hy13 hHeld1 ?rest13
              case hi13 => simp only [List.getElem?_toArray, List.getElem?_cons_succ, List.getElem?_cons_zero, Option.some.injEq]; rfl
              case hq13 => exact fun _ _ _ h => h
              case hy13 => exact Or.inr ⟨by kernel_rfl, rfl⟩
              try simp only [Go.Act.put, List.setIfInBounds_toArray, List.set_cons_zero, List.set_cons_succ]
              refine wpAnyH_take (i := 14) (oi := ?oi14) (v := undef) ?hi14 (by kernel_rfl) (by kernel_rfl) (by kernel_rfl) ?hq14 ?hy14 hHeld1 ?rest14
              case hi14 => simp only [List.getElem?_toArray, List.getElem?_cons_succ, List.getElem?_cons_zero, Option.some.injEq]; rfl
              case hq14 => exact fun _ _ _ h => h
              case hy14 => exact Or.inr ⟨by kernel_rfl, rfl⟩
              try simp only [Go.Act.put, List.setIfInBounds_toArray, List.set_cons_zero, List.set_cons_succ]
              refine wpAnyH_take (i := 15) (oi := ?oi15) (v := undef) ?hi15 (by kernel_rfl) (by kernel_rfl) (by kernel_rfl) ?hq15 ?hy15 hHeld1 ?rest15
              case hi15 => simp only [List.getElem?_toArray, List.getElem?_cons_succ, List.getElem?_cons_zero, Option.some.injEq]; rfl
              case hq15 => exact fun _ _ _ h => h
              case hy15 => exact Or.inr ⟨by kernel_rfl, rfl⟩
              try simp only [Go.Act.put, List.setIfInBounds_toArray, List.set_cons_zero, List.set_cons_succ]
              refine wpAnyH_take (i := 16) (oi := ?oi16) (v := undef) ?hi16 (by kernel_rfl) (by kernel_rfl) (by kernel_rfl) ?hq16 ?hy16 hHeld1 ?rest16
              case hi16 => simp only [List.getElem?_toArray, List.getElem?_cons_succ, List.getElem?_cons_zero, Option.some.injEq]; rfl
              case hq16 => exact fun _ _ _ h => h
              case hy16 => exact Or.inr ⟨by kernel_rfl, rfl⟩
              try simp only [Go.Act.put, List.setIfInBounds_toArray, List.set_cons_zero, List.set_cons_succ]
              refine wpAnyH_take (i := 17) (oi := ?oi17) (v := undef) ?hi17 (by kernel_rfl) (by kernel_rfl) (by kernel_rfl) ?hq17 ?hy17 hHeld1 ?rest17
              case hi17 => simp only [List.getElem?_toArray, List.getElem?_cons_succ, List.getElem?_cons_zero, Option.some.injEq]; rfl
              case hq17 => exact fun _ _ _ h => h
              case hy17 => exact Or.inr ⟨by kernel_rfl, rfl⟩
              try simp only [Go.Act.put, List.setIfInBounds_toArray, List.set_cons_zero, List.set_cons_succ]
              refine wpAnyH_take (i := 18) (oi := ?oi18) (v := undef) ?hi18 (by kernel_rfl) (by kernel_rfl) (by kernel_rfl) ?hq18 ?hy18 hHeld1 ?rest18
              case hi18 => simp only [List.getElem?_toArray, List.getElem?_cons_succ, List.getElem?_cons_zero, Option.some.injEq]; rfl
              case hq18 => exact fun _ _ _ h => h
              case hy18 => exact Or.inr ⟨by kernel_rfl, rfl⟩
              try simp only [Go.Act.put, List.setIfInBounds_toArray, List.set_cons_zero, List.set_cons_succ]
              refine wpAnyH_take (i := 19) (oi := ?oi19) (v := undef) ?hi19 (by kernel_rfl) (by kernel_rfl) (by kernel_rfl) ?hq19 ?hy19 hHeld1 ?rest19
              case hi19 => simp only [List.getElem?_toArray, List.getElem?_cons_succ, List.getElem?_cons_zero, Option.some.injEq]; rfl
              case hq19 => exact fun _ _ _ h => h
              case hy19 => exact Or.inr ⟨by kernel_rfl, rfl⟩
              try simp only [Go.Act.put, List.setIfInBounds_toArray, List.set_cons_zero, List.set_cons_succ]
              refine wpAnyH_take (i := 20) (oi := ?oi20) (v := undef) ?hi20 (by kernel_rfl) (by kernel_rfl) (by kernel_rfl) ?hq20 ?hy20 hHeld1 ?rest20
              case hi20 => simp only [List.getElem?_toArray, List.getElem?_cons_succ, List.getElem?_cons_zero, Option.some.injEq]; rfl
              case hq20 => exact fun _ _ _ h => h
              case hy20 => exact Or.inr ⟨by kernel_rfl, rfl⟩
              try simp only [Go.Act.put, List.setIfInBounds_toArray, List.set_cons_zero, List.set_cons_succ]
              refine wpAnyH_take (i := 21) (oi := ?oi21) (v := undef) ?hi21 (by kernel_rfl) (by kernel_rfl) (by kernel_rfl) ?hq21 ?hy21 hHeld1 ?rest21
              case hi21 => simp only [List.getElem?_toArray, List.getElem?_cons_succ, List.getElem?_cons_zero, Option.some.injEq]; rfl
              case hq21 => exact fun _ _ _ h => h
              case hy21 => exact Or.inr ⟨by kernel_rfl, rfl⟩
              try simp only [Go.Act.put, List.setIfInBounds_toArray, List.set_cons_zero, List.set_cons_succ]
              refine wpAnyH_take (i := 22) (oi := ?oi22) (v := undef) ?hi22 (by kernel_rfl) (by kernel_rfl) (by kernel_rfl) ?hq22 ?hy22 hHeld1 ?rest22
              case hi22 => simp only [List.getElem?_toArray, List.getElem?_cons_succ, List.getElem?_cons_zero, Option.some.injEq]; rfl
              case hq22 => exact fun _ _ _ h => h
              case hy22 => exact Or.inr ⟨by kernel_rfl, rfl⟩
              try simp only [Go.Act.put, List.setIfInBounds_toArray, List.set_cons_zero, List.set_cons_succ]
              refine wpAnyH_take (i := 23) (oi := ?oi23) (v := undef) ?hi23 (by kernel_rfl) (by kernel_rfl) (by kernel_rfl) ?hq23 ?hy23 hHeld1 ?rest23
              case hi23 => simp only [List.getElem?_toArray, List.getElem?_cons_succ, List.getElem?_cons_zero, Option.some.injEq]; rfl
              case hq23 => exact fun _ _ _ h => h
              case hy23 => exact Or.inr ⟨by kernel_rfl, rfl⟩
              try simp only [Go.Act.put, List.setIfInBounds_toArray, List.set_cons_zero, List.set_cons_succ]
              refine wpAnyH_take (i := 24) (oi := ?oi24) (v := undef) ?hi24 (by kernel_rfl) (by kernel_rfl) (by kernel_rfl) ?hq24 ?hy24 hHeld1 ?rest24
              case hi24 => simp only [List.getElem?_toArray, List.getElem?_cons_succ, List.getElem?_cons_zero, Option.some.injEq]; rfl
              case hq24 => exact fun _ _ _ h => h
              case hy24 => exact Or.inr ⟨by kernel_rfl, rfl⟩
              try simp only [Go.Act.put, List.setIfInBounds_toArray, List.set_cons_zero, List.set_cons_succ]
              refine wpAnyH_take (i := 25) (oi := ?oi25) (v := .bool false) ?hi25 (by kernel_rfl) (by kernel_rfl) (by kernel_rfl) ?hq25 ?hy25 hHeld1 ?rest25
              case hi25 => simp only [List.getElem?_toArray, List.getElem?_cons_succ, List.getElem?_cons_zero, Option.some.injEq]; rfl
              case hq25 => exact fun _ _ _ h => h
              case hy25 =>
                refine Or.inl ⟨by rfl, fun V hV => ?_⟩
                clear hV
                go_simp
              try simp only [Go.Act.put, List.setIfInBounds_toArray, List.set_cons_zero, List.set_cons_succ]
              refine wpAnyH_done (by kernel_rfl) ?_ _
              have HN : Hid (KrM w (some ⟨b, off, none⟩) ss.length sc R T (ss.length + 1) (fun k => ((kpV ss.length ag d).1 k : Nat)) (rowH ss.length ag d (m + 1)) w9) := by
                show KrM _ _ _ _ _ _ _ _ _ _
                rw [rowH_stay (n := ss.length) (ag := ag) (d := d) (m := m) HJ.out (fun h => by have := HBB.out; rw [HI.out] at this; rw [h.1] at this; cases this)]
                exact hMi.out.grown hHeld1.1
              clear hHeld hHeld1 hg9 HSTEP HSD hMi
              go_wp2_with fail
              go_roundw
              case rel => exact ⟨m + 1, by omega, by go_num, HN.out⟩
              case measure => first | (simp [intOf]; done) | (simp [intOf]; omega)
            | true =>
              by_cases hle : v ≤ u
              · have g1 : decide (((v : Nat) : Int) ≤ ((u : Nat) : Int)) = true := by simp; omega
                have g2 : ((v : Nat) : Int) ≤ ((u : Nat) : Int) := by omega
                have hS0 : (wr.grownBy wr none ∧ World.cell? wr ⟨w.heap.size, 3, none⟩ = some (.slice (some ⟨b, off, none⟩) ss.length sc) ∧ World.cell? wr ⟨R, j, none⟩ = some (.int .i64 (u : Nat)) ∧ World.cell? wr ⟨T, i, none⟩ = some (.int .i64 (x : Nat)) ∧ World.cell? wr ⟨R, x, none⟩ = some (.int .i64 (v : Nat)) ∧ World.cell? wr ⟨b, off + i * 7, none⟩ = some (.int .i64 pt) ∧ World.cell? wr ⟨b, off + i * 7 + 1, none⟩ = some (.int .i64 px) ∧ World.cell? wr ⟨b, off + i * 7 + 2, none⟩ = some (.int .i64 py) ∧ World.cell? wr ⟨b, off + i * 7 + 3, none⟩ = some (.int .i64 pz) ∧ World.cell? wr ⟨b, off + i * 7 + 4, none⟩ = some (.int .i64 pp) ∧ World.cell? wr ⟨b, off + i * 7 + 5, none⟩ = some (.int .i64 pq) ∧ World.cell? wr ⟨b, off + i * 7 + 6, none⟩ = some (.int .i64 ps) ∧ World.cell? wr ⟨b, off + j * 7, none⟩ = some (.int .i64 qt) ∧ World.cell? wr ⟨b, off + j * 7 + 1, none⟩ = some (.int .i64 qx) ∧ World.cell? wr ⟨b, off + j * 7 + 2, none⟩ = some (.int .i64 qy) ∧ World.cell? wr ⟨b, off + j * 7 + 3, none⟩ = some (.int .i64 qz) ∧ World.cell? wr ⟨b, off + j * 7 + 4, none⟩ = some (.int .i64 qp) ∧ World.cell? wr ⟨b, off + j * 7 + 5, none⟩ = some (.int .i64 qq) ∧ World.cell? wr ⟨b, off + j * 7 + 6, none⟩ = some (.int .i64 qs)) := ⟨grown_refl _ _, b3, c1, c2, c3, p0, p1, p2, p3, p4, p5, p6, q0, q1, q2, q3, q4, q5, q6⟩
                have hstep : ∀ W W' : World, (wr.grownBy W none ∧ World.cell? W ⟨w.heap.size, 3, none⟩ = some (.slice (some ⟨b, off, none⟩) ss.length sc) ∧ World.cell? W ⟨R, j, none⟩ = some (.int .i64 (u : Nat)) ∧ World.cell? W ⟨T, i, none⟩ = some (.int .i64 (x : Nat)) ∧ World.cell? W ⟨R, x, none⟩ = some (.int .i64 (v : Nat)) ∧ World.cell? W ⟨b, off + i * 7, none⟩ = some (.int .i64 pt) ∧ World.cell? W ⟨b, off + i * 7 + 1, none⟩ = some (.int .i64 px) ∧ World.cell? W ⟨b, off + i * 7 + 2, none⟩ = some (.int .i64 py) ∧ World.cell? W ⟨b, off + i * 7 + 3, none⟩ = some (.int .i64 pz) ∧ World.cell? W ⟨b, off + i * 7 + 4, none⟩ = some (.int .i64 pp) ∧ World.cell? W ⟨b, off + i * 7 + 5, none⟩ = some (.int .i64 pq) ∧ World.cell? W ⟨b, off + i * 7 + 6, none⟩ = some (.int .i64 ps) ∧ World.cell? W ⟨b, off + j * 7, none⟩ = some (.int .i64 qt) ∧ World.cell? W ⟨b, off + j * 7 + 1, none⟩ = some (.int .i64 qx) ∧ World.cell? W ⟨b, off + j * 7 + 2, none⟩ = some (.int .i64 qy) ∧ World.cell? W ⟨b, off + j * 7 + 3, none⟩ = some (.int .i64 qz) ∧ World.cell? W ⟨b, off + j * 7 + 4, none⟩ = some (.int .i64 qp) ∧ World.cell? W ⟨b, off + j * 7 + 5, none⟩ = some (.int .i64 qq) ∧ World.cell? W ⟨b, off + j * 7 + 6, none⟩ = some (.int .i64 qs)) → W.grownBy W' none → (wr.grownBy W' none ∧ World.cell? W' ⟨w.heap.size, 3, none⟩ = some (.slice (some ⟨b, off, none⟩) ss.length sc) ∧ World.cell? W' ⟨R, j, none⟩ = some (.int .i64 (u : Nat)) ∧ World.cell? W' ⟨T, i, none⟩ = some (.int .i64 (x : Nat)) ∧ World.cell? W' ⟨R, x, none⟩ = some (.int .i64 (v : Nat)) ∧ World.cell? W' ⟨b, off + i * 7, none⟩ = some (.int .i64 pt) ∧ World.cell? W' ⟨b, off + i * 7 + 1, none⟩ = some (.int .i64 px) ∧ World.cell? W' ⟨b, off + i * 7 + 2, none⟩ = some (.int .i64 py) ∧ World.cell? W' ⟨b, off + i * 7 + 3, none⟩ = some (.int .i64 pz) ∧ World.cell? W' ⟨b, off + i * 7 + 4, none⟩ = some (.int .i64 pp) ∧ World.cell? W' ⟨b, off + i * 7 + 5, none⟩ = some (.int .i64 pq) ∧ World.cell? W' ⟨b, off + i * 7 + 6, none⟩ = some (.int .i64 ps) ∧ World.cell? W' ⟨b, off + j * 7, none⟩ = some (.int .i64 qt) ∧ World.cell? W' ⟨b, off + j * 7 + 1, none⟩ = some (.int .i64 qx) ∧ World.cell? W' ⟨b, off + j * 7 + 2, none⟩ = some (.int .i64 qy) ∧ World.cell? W' ⟨b, off + j * 7 + 3, none⟩ = some (.int .i64 qz) ∧ World.cell? W' ⟨b, off + j * 7 + 4, none⟩ = some (.int .i64 qp) ∧ World.cell? W' ⟨b, off + j * 7 + 5, none⟩ = some (.int .i64 qq) ∧ World.cell? W' ⟨b, off + j * 7 + 6, none⟩ = some (.int .i64 qs)) := fun W W' h g => ⟨grown_trans h.1 g, grown_cell g h.2.1, grown_cell g h.2.2.1, grown_cell g h.2.2.2.1, grown_cell g h.2.2.2.2.1, grown_cell g h.2.2.2.2.2.1, grown_cell g h.2.2.2.2.2.2.1, grown_cell g h.2.2.2.2.2.2.2.1, grown_cell g h.2.2.2.2.2.2.2.2.1, grown_cell g h.2.2.2.2.2.2.2.2.2.1, grown_cell g h.2.2.2.2.2.2.2.2.2.2.1, grown_cell g h.2.2.2.2.2.2.2.2.2.2.2.1, grown_cell g h.2.2.2.2.2.2.2.2.2.2.2.2.1, grown_cell g h.2.2.2.2.2.2.2.2.2.2.2.2.2.1, grown_cell g h.2.2.2.2.2.2.2.2.2.2.2.2.2.2.1, grown_cell g h.2.2.2.2.2.2.2.2.2.2.2.2.2.2.2.1, grown_cell g h.2.2.2.2.2.2.2.2.2.2.2.2.2.2.2.2.1, grown_cell g h.2.2.2.2.2.2.2.2.2.2.2.2.2.2.2.2.2.1, grown_cell g h.2.2.2.2.2.2.2.2.2.2.2.2.2.2.2.2.2.2⟩
                have hSd : (wr.grownBy wr.drew none ∧ World.cell? wr.drew ⟨w.heap.size, 3, none⟩ = some (.slice (some ⟨b, off, none⟩) ss.length sc) ∧ World.cell? wr.drew ⟨R, j, none⟩ = some (.int .i64 (u : Nat)) ∧ World.cell? wr.drew ⟨T, i, none⟩ = some (.int .i64 (x : Nat)) ∧ World.cell? wr.drew ⟨R, x, none⟩ = some (.int .i64 (v : Nat)) ∧ World.cell? wr.drew ⟨b, off + i * 7, none⟩ = some (.int .i64 pt) ∧ World.cell? wr.drew ⟨b, off + i * 7 + 1, none⟩ = some (.int .i64 px) ∧ World.cell? wr.drew ⟨b, off + i * 7 + 2, none⟩ = some (.int .i64 py) ∧ World.cell? wr.drew ⟨b, off + i * 7 + 3, none⟩ = some (.int .i64 pz) ∧ World.cell? wr.drew ⟨b, off + i * 7 + 4, none⟩ = some (.int .i64 pp) ∧ World.cell? wr.drew ⟨b, off + i * 7 + 5, none⟩ = some (.int .i64 pq) ∧ World.cell? wr.drew ⟨b, off + i * 7 + 6, none⟩ = some (.int .i64 ps) ∧ World.cell? wr.drew ⟨b, off + j * 7, none⟩ = some (.int .i64 qt) ∧ World.cell? wr.drew ⟨b, off + j * 7 + 1, none⟩ = some (.int .i64 qx) ∧ World.cell? wr.drew ⟨b, off + j * 7 + 2, none⟩ = some (.int .i64 qy) ∧ World.cell? wr.drew ⟨b, off + j * 7 + 3, none⟩ = some (.int .i64 qz) ∧ World.cell? wr.drew ⟨b, off + j * 7 + 4, none⟩ = some (.int .i64 qp) ∧ World.cell? wr.drew ⟨b, off + j * 7 + 5, none⟩ = some (.int .i64 qq) ∧ World.cell? wr.drew ⟨b, off + j * 7 + 6, none⟩ = some (.int .i64 qs)) := hstep _ _ hS0 (grown_drewN _ _ 1)
                have HSTEP := Lib.hid hstep; have HSD := Lib.hid hSd
                clear hS0 hstep hSd
                go_wp2_with fail
                clear b3 c1 c2 c3 p0 p1 p2 p3 p4 p5 p6 q0 q1 q2 q3 q4 q5 q6
                go_region_held3 (fun W => (wr.grownBy W none ∧ World.cell? W ⟨w.heap.size, 3, none⟩ = some (.slice (some ⟨b, off, none⟩) ss.length sc) ∧ World.cell? W ⟨R, j, none⟩ = some (.int .i64 (u : Nat)) ∧ World.cell? W ⟨T, i, none⟩ = some (.int .i64 (x : Nat)) ∧ World.cell? W ⟨R, x, none⟩ = some (.int .i64 (v : Nat)) ∧ World.cell? W ⟨b, off + i * 7, none⟩ = some (.int .i64 pt) ∧ World.cell? W ⟨b, off + i * 7 + 1, none⟩ = some (.int .i64 px) ∧ World.cell? W ⟨b, off + i * 7 + 2, none⟩ = some (.int .i64 py) ∧ World.cell? W ⟨b, off + i * 7 + 3, none⟩ = some (.int .i64 pz) ∧ World.cell? W ⟨b, off + i * 7 + 4, none⟩ = some (.int .i64 pp) ∧ World.cell? W ⟨b, off + i * 7 + 5, none⟩ = some (.int .i64 pq) ∧ World.cell? W ⟨b, off + i * 7 + 6, none⟩ = some (.int .i64 ps) ∧ World.cell? W ⟨b, off + j * 7, none⟩ = some (.int .i64 qt) ∧ World.cell? W ⟨b, off + j * 7 + 1, none⟩ = some (.int .i64 qx) ∧ World.cell? W ⟨b, off + j * 7 + 2, none⟩ = some (.int .i64 qy) ∧ World.cell? W ⟨b, off + j * 7 + 3, none⟩ = some (.int .i64 qz) ∧ World.cell? W ⟨b, off + j * 7 + 4, none⟩ = some (.int .i64 qp) ∧ World.cell? W ⟨b, off + j * 7 + 5, none⟩ = some (.int .i64 qq) ∧ World.cell? W ⟨b, off + j * 7 + 6, none⟩ = some (.int .i64 qs))) (first | exact HSD.out | (refine HSTEP.out _ _ ?_ (by assumption) <;> assumption)) (first
                  | (go_at_call 76; refine (ragree_is ⟨pt, px, py, pz, pp, pq, ps⟩ ⟨qt, qx, qy, qz, qp, qq, qs⟩ HPP.out HQP.out fast f0 f1 HTT.out.1 HTT.out.2 _ HB).mono ?_; rintro x w7 ⟨rfl, hg7⟩))
                all_goals
                  rename_i hfin
                  obtain ⟨w9, hw9⟩ : ∃ w9, w9 = w7 := ⟨_, rfl⟩
                  subst hw9
                  have HM7 := hMi.out.grown hfin.1
                  have d1 := HM7.r2.cell (k := i) (by omega)
                  have e1 := HM7.r2.free i
                  have HN : Hid (KrM w (some ⟨b, off, none⟩) ss.length sc R T (ss.length + 1) (fun k => ((kpV ss.length ag d).1 k : Nat)) (rowH ss.length ag d (m + 1)) (w9.setCell ⟨T, i, none⟩ (.int .i64 (j : Nat)))) := by
                    show KrM _ _ _ _ _ _ _ _ _ _
                    rw [rowH_go (n := ss.length) (ag := ag) (d := d) (m := m) HJ.out (by rw [← HI.out]; exact HBB.out) (by rw [HX.out, HU.out, HV.out]; exact hle), ← HI.out]
                    exact HM7.set2 HR.out i j
                  clear hfin HSTEP HSD hMi HM7
                  go_wp2_with fail
                  go_roundw
                  case rel => exact ⟨m + 1, by omega, by go_num, HN.out⟩
                  case measure => first | (simp [intOf]; done) | (simp [intOf]; omega)
              · have g1 : decide (((v : Nat) : Int) ≤ ((u : Nat) : Int)) = false := by simp; omega
                have g2 : ¬ (((v : Nat) : Int) ≤ ((u : Nat) : Int)) := by omega
                have hS0 : (wr.grownBy wr none ∧ World.cell? wr ⟨w.heap.size, 3, none⟩ = some (.slice (some ⟨b, off, none⟩) ss.length sc) ∧ World.cell? wr ⟨R, j, none⟩ = some (.int .i64 (u : Nat)) ∧ World.cell? wr ⟨T, i, none⟩ = some (.int .i64 (x : Nat)) ∧ World.cell? wr ⟨R, x, none⟩ = some (.int .i64 (v : Nat)) ∧ World.cell? wr ⟨b, off + i * 7, none⟩ = some (.int .i64 pt) ∧ World.cell? wr ⟨b, off + i * 7 + 1, none⟩ = some (.int .i64 px) ∧ World.cell? wr ⟨b, off + i * 7 + 2, none⟩ = some (.int .i64 py) ∧ World.cell? wr ⟨b, off + i * 7 + 3, none⟩ = some (.int .i64 pz) ∧ World.cell? wr ⟨b, off + i * 7 + 4, none⟩ = some (.int .i64 pp) ∧ World.cell? wr ⟨b, off + i * 7 + 5, none⟩ = some (.int .i64 pq) ∧ World.cell? wr ⟨b, off + i * 7 + 6, none⟩ = some (.int .i64 ps) ∧ World.cell? wr ⟨b, off + j * 7, none⟩ = some (.int .i64 qt) ∧ World.cell? wr ⟨b, off + j * 7 + 1, none⟩ = some (.int .i64 qx) ∧ World.cell? wr ⟨b, off + j * 7 + 2, none⟩ = some (.int .i64 qy) ∧ World.cell? wr ⟨b, off + j * 7 + 3, none⟩ = some (.int .i64 qz) ∧ World.cell? wr ⟨b, off + j * 7 + 4, none⟩ = some (.int .i64 qp) ∧ World.cell? wr ⟨b, off + j * 7 + 5, none⟩ = some (.int .i64 qq) ∧ World.cell? wr ⟨b, off + j * 7 + 6, none⟩ = some (.int .i64 qs)) := ⟨grown_refl _ _, b3, c1, c2, c3, p0, p1, p2, p3, p4, p5, p6, q0, q1, q2, q3, q4, q5, q6⟩
                have hstep : ∀ W W' : World, (wr.grownBy W none ∧ World.cell? W ⟨w.heap.size, 3, none⟩ = some (.slice (some ⟨b, off, none⟩) ss.length sc) ∧ World.cell? W ⟨R, j, none⟩ = some (.int .i64 (u : Nat)) ∧ World.cell? W ⟨T, i, none⟩ = some (.int .i64 (x : Nat)) ∧ World.cell? W ⟨R, x, none⟩ = some (.int .i64 (v : Nat)) ∧ World.cell? W ⟨b, off + i * 7, none⟩ = some (.int .i64 pt) ∧ World.cell? W ⟨b, off + i * 7 + 1, none⟩ = some (.int .i64 px) ∧ World.cell? W ⟨b, off + i * 7 + 2, none⟩ = some (.int .i64 py) ∧ World.cell? W ⟨b, off + i * 7 + 3, none⟩ = some (.int .i64 pz) ∧ World.cell? W ⟨b, off + i * 7 + 4, none⟩ = some (.int .i64 pp) ∧ World.cell? W ⟨b, off + i * 7 + 5, none⟩ = some (.int .i64 pq) ∧ World.cell? W ⟨b, off + i * 7 + 6, none⟩ = some (.int .i64 ps) ∧ World.cell? W ⟨b, off + j * 7, none⟩ = some (.int .i64 qt) ∧ World.cell? W ⟨b, off + j * 7 + 1, none⟩ = some (.int .i64 qx) ∧ World.cell? W ⟨b, off + j * 7 + 2, none⟩ = some (.int .i64 qy) ∧ World.cell? W ⟨b, off + j * 7 + 3, none⟩ = some (.int .i64 qz) ∧ World.cell? W ⟨b, off + j * 7 + 4, none⟩ = some (.int .i64 qp) ∧ World.cell? W ⟨b, off + j * 7 + 5, none⟩ = some (.int .i64 qq) ∧ World.cell? W ⟨b, off + j * 7 + 6, none⟩ = some (.int .i64 qs)) → W.grownBy W' none → (wr.grownBy W' none ∧ World.cell? W' ⟨w.heap.size, 3, none⟩ = some (.slice (some ⟨b, off, none⟩) ss.length sc) ∧ World.cell? W' ⟨R, j, none⟩ = some (.int .i64 (u : Nat)) ∧ World.cell? W' ⟨T, i, none⟩ = some (.int .i64 (x : Nat)) ∧ World.cell? W' ⟨R, x, none⟩ = some (.int .i64 (v : Nat)) ∧ World.cell? W' ⟨b, off + i * 7, none⟩ = some (.int .i64 pt) ∧ World.cell? W' ⟨b, off + i * 7 + 1, none⟩ = some (.int .i64 px) ∧ World.cell? W' ⟨b, off + i * 7 + 2, none⟩ = some (.int .i64 py) ∧ World.cell? W' ⟨b, off + i * 7 + 3, none⟩ = some (.int .i64 pz) ∧ World.cell? W' ⟨b, off + i * 7 + 4, none⟩ = some (.int .i64 pp) ∧ World.cell? W' ⟨b, off + i * 7 + 5, none⟩ = some (.int .i64 pq) ∧ World.cell? W' ⟨b, off + i * 7 + 6, none⟩ = some (.int .i64 ps) ∧ World.cell? W' ⟨b, off + j * 7, none⟩ = some (.int .i64 qt) ∧ World.cell? W' ⟨b, off + j * 7 + 1, none⟩ = some (.int .i64 qx) ∧ World.cell? W' ⟨b, off + j * 7 + 2, none⟩ = some (.int .i64 qy) ∧ World.cell? W' ⟨b, off + j * 7 + 3, none⟩ = some (.int .i64 qz) ∧ World.cell? W' ⟨b, off + j * 7 + 4, none⟩ = some (.int .i64 qp) ∧ World.cell? W' ⟨b, off + j * 7 + 5, none⟩ = some (.int .i64 qq) ∧ World.cell? W' ⟨b, off + j * 7 + 6, none⟩ = some (.int .i64 qs)) := fun W W' h g => ⟨grown_trans h.1 g, grown_cell g h.2.1, grown_cell g h.2.2.1, grown_cell g h.2.2.2.1, grown_cell g h.2.2.2.2.1, grown_cell g h.2.2.2.2.2.1, grown_cell g h.2.2.2.2.2.2.1, grown_cell g h.2.2.2.2.2.2.2.1, grown_cell g h.2.2.2.2.2.2.2.2.1, grown_cell g h.2.2.2.2.2.2.2.2.2.1, grown_cell g h.2.2.2.2.2.2.2.2.2.2.1, grown_cell g h.2.2.2.2.2.2.2.2.2.2.2.1, grown_cell g h.2.2.2.2.2.2.2.2.2.2.2.2.1, grown_cell g h.2.2.2.2.2.2.2.2.2.2.2.2.2.1, grown_cell g h.2.2.2.2.2.2.2.2.2.2.2.2.2.2.1, grown_cell g h.2.2.2.2.2.2.2.2.2.2.2.2.2.2.2.1, grown_cell g h.2.2.2.2.2.2.2.2.2.2.2.2.2.2.2.2.1, grown_cell g h.2.2.2.2.2.2.2.2.2.2.2.2.2.2.2.2.2.1, grown_cell g h.2.2.2.2.2.2.2.2.2.2.2.2.2.2.2.2.2.2⟩
                have hSd : (wr.grownBy wr.drew none ∧ World.cell? wr.drew ⟨w.heap.size, 3, none⟩ = some (.slice (some ⟨b, off, none⟩) ss.length sc) ∧ World.cell? wr.drew ⟨R, j, none⟩ = some (.int .i64 (u : Nat)) ∧ World.cell? wr.drew ⟨T, i, none⟩ = some (.int .i64 (x : Nat)) ∧ World.cell? wr.drew ⟨R, x, none⟩ = some (.int .i64 (v : Nat)) ∧ World.cell? wr.drew ⟨b, off + i * 7, none⟩ = some (.int .i64 pt) ∧ World.cell? wr.drew ⟨b, off + i * 7 + 1, none⟩ = some (.int .i64 px) ∧ World.cell? wr.drew ⟨b, off + i * 7 + 2, none⟩ = some (.int .i64 py) ∧ World.cell? wr.drew ⟨b, off + i * 7 + 3, none⟩ = some (.int .i64 pz) ∧ World.cell? wr.drew ⟨b, off + i * 7 + 4, none⟩ = some (.int .i64 pp) ∧ World.cell? wr.drew ⟨b, off + i * 7 + 5, none⟩ = some (.int .i64 pq) ∧ World.cell? wr.drew ⟨b, off + i * 7 + 6, none⟩ = some (.int .i64 ps) ∧ World.cell? wr.drew ⟨b, off + j * 7, none⟩ = some (.int .i64 qt) ∧ World.cell? wr.drew ⟨b, off + j * 7 + 1, none⟩ = some (.int .i64 qx) ∧ World.cell? wr.drew ⟨b, off + j * 7 + 2, none⟩ = some (.int .i64 qy) ∧ World.cell? wr.drew ⟨b, off + j * 7 + 3, none⟩ = some (.int .i64 qz) ∧ World.cell? wr.drew ⟨b, off + j * 7 + 4, none⟩ = some (.int .i64 qp) ∧ World.cell? wr.drew ⟨b, off + j * 7 + 5, none⟩ = some (.int .i64 qq) ∧ World.cell? wr.drew ⟨b, off + j * 7 + 6, none⟩ = some (.int .i64 qs)) := hstep _ _ hS0 (grown_drewN _ _ 1)
                have HSTEP := Lib.hid hstep; have HSD := Lib.hid hSd
                clear hS0 hstep hSd
                go_wp2_with fail
                clear b3 c1 c2 c3 p0 p1 p2 p3 p4 p5 p6 q0 q1 q2 q3 q4 q5 q6
                go_region_held3 (fun W => (wr.grownBy W none ∧ World.cell? W ⟨w.heap.size, 3, none⟩ = some (.slice (some ⟨b, off, none⟩) ss.length sc) ∧ World.cell? W ⟨R, j, none⟩ = some (.int .i64 (u : Nat)) ∧ World.cell? W ⟨T, i, none⟩ = some (.int .i64 (x : Nat)) ∧ World.cell? W ⟨R, x, none⟩ = some (.int .i64 (v : Nat)) ∧ World.cell? W ⟨b, off + i * 7, none⟩ = some (.int .i64 pt) ∧ World.cell? W ⟨b, off + i * 7 + 1, none⟩ = some (.int .i64 px) ∧ World.cell? W ⟨b, off + i * 7 + 2, none⟩ = some (.int .i64 py) ∧ World.cell? W ⟨b, off + i * 7 + 3, none⟩ = some (.int .i64 pz) ∧ World.cell? W ⟨b, off + i * 7 + 4, none⟩ = some (.int .i64 pp) ∧ World.cell? W ⟨b, off + i * 7 + 5, none⟩ = some (.int .i64 pq) ∧ World.cell? W ⟨b, off + i * 7 + 6, none⟩ = some (.int .i64 ps) ∧ World.cell? W ⟨b, off + j * 7, none⟩ = some (.int .i64 qt) ∧ World.cell? W ⟨b, off + j * 7 + 1, none⟩ = some (.int .i64 qx) ∧ World.cell? W ⟨b, off + j * 7 + 2, none⟩ = some (.int .i64 qy) ∧ World.cell? W ⟨b, off + j * 7 + 3, none⟩ = some (.int .i64 qz) ∧ World.cell? W ⟨b, off + j * 7 + 4, none⟩ = some (.int .i64 qp) ∧ World.cell? W ⟨b, off + j * 7 + 5, none⟩ = some (.int .i64 qq) ∧ World.cell? W ⟨b, off + j * 7 + 6, none⟩ = some (.int .i64 qs))) (first | exact HSD.out | (refine HSTEP.out _ _ ?_ (by assumption) <;> assumption)) (first
                  | (go_at_call 76; refine (ragree_is ⟨pt, px, py, pz, pp, pq, ps⟩ ⟨qt, qx, qy, qz, qp, qq, qs⟩ HPP.out HQP.out fast f0 f1 HTT.out.1 HTT.out.2 _ HB).mono ?_; rintro x w7 ⟨rfl, hg7⟩))
                all_goals
                  rename_i hfin
                  obtain ⟨w9, hw9⟩ : ∃ w9, w9 = w7 := ⟨_, rfl⟩
                  subst hw9
                  have HN : Hid (KrM w (some ⟨b, off, none⟩) ss.length sc R T (ss.length + 1) (fun k => ((kpV ss.length ag d).1 k : Nat)) (rowH ss.length ag d (m + 1)) w9) := by
                    show KrM _ _ _ _ _ _ _ _ _ _
                    rw [rowH_stay (n := ss.length) (ag := ag) (d := d) (m := m) HJ.out (fun h => by have := h.2; rw [HX.out, HU.out, HV.out] at this; omega)]
                    exact hMi.out.grown hfin.1
                  clear hfin HSTEP HSD hMi
                  go_wp2_with fail
                  go_roundw
                  case rel => exact ⟨m + 1, by omega, by go_num, HN.out⟩
                  case measure => first | (simp [intOf]; done) | (simp [intOf]; omega)
          · obtain rfl : m = d := by omega
            rw [hi2]
            have c1 := hMi.out.r1.cell (k := i) (by omega)
            have fr1 := hMi.out.r1.free i
            have hfn := HFN.out
            have HN : Hid (KrM w so ss.length sc R T (ss.length + 1) (fun k => ((kpV ss.length ag (m + 1)).1 k : Nat)) (rowK ss.length ag encN (m + 1)) (wr.setCell ⟨R, i, none⟩ (.int .i64 ((v : Nat) + 1)))) := by
              have q := hMi.out.set1 HR.out i ((v : Nat) + 1)
              show KrM _ _ _ _ _ _ _ _ _ _
              rw [kpF_succ, HX.out, HV.out, ← HI.out, ← rowH_end hlt]
              exact q
            have rv : IntKind.i64.wrap ((v : Int) + 1) = (v : Int) + 1 := IntWalk.i64_in _ (by omega)
            have hL : (kpV ss.length ag (m + 1)).2 = if (kpV ss.length ag (m + 1)).1 (kpV ss.length ag m).2 ≤ (kpV ss.length ag (m + 1)).1 (ss.length - 1 - m) then ss.length - 1 - m else (kpV ss.length ag m).2 := rfl
            have e1 : (wr.setCell ⟨R, i, none⟩ (.int .i64 ((v : Nat) + 1))).cell? ⟨R, i, none⟩ = some (.int .i64 ((kpV ss.length ag (m + 1)).1 i : Nat)) := HN.out.r1.cell (by omega)
            have e2 : (wr.setCell ⟨R, i, none⟩ (.int .i64 ((v : Nat) + 1))).cell? ⟨R, f, none⟩ = some (.int .i64 ((kpV ss.length ag (m + 1)).1 f : Nat)) := HN.out.r1.cell (by omega)
            rw [HF.out, ← HI.out] at hL
            obtain ⟨u1, hu1⟩ : ∃ u, (kpV ss.length ag (m + 1)).1 i = u := ⟨_, rfl⟩
            obtain ⟨v1, hv1⟩ : ∃ v, (kpV ss.length ag (m + 1)).1 f = v := ⟨_, rfl⟩
            rw [hu1, hv1] at hL
            rw [hu1] at e1
            rw [hv1] at e2
            have hi3 : (i : Int) - 1 = (ss.length : Int) - 1 - ((m + 1 : Nat) : Int) := by omega
            have ri : IntKind.i64.wrap ((i : Int) - 1) = (i : Int) - 1 := IntWalk.i64_in _ (by omega)
            have f1' : (0 : Int) ≤ (f : Int) := by omega
            have f2' : (f : Int) < (ss.length : Int) + 1 := by omega
            clear hu1 hv1 hbd hMi
            by_cases hle : v1 ≤ u1
            · have HF2 : Hid (i = (kpV ss.length ag (m + 1)).2) := by show _ = _; rw [hL, if_pos hle]
              have g1 : decide (((v1 : Nat) : Int) ≤ ((u1 : Nat) : Int)) = true := by simp; omega
              have g2 : ((v1 : Nat) : Int) ≤ ((u1 : Nat) : Int) := by omega
              clear hL
              go_wp2_with fail
              go_quiet (fail)
              go_wp2_with fail
              go_roundw
              case rel => exact ⟨m + 1, by omega, by rw [← HF2.out], by rw [← hi3]; go_num, HN.out.grown (grown_drewN _ _ _)⟩
              case measure => first | (simp [intOf]; done) | (simp [intOf]; omega)
            · have HF2 : Hid (f = (kpV ss.length ag (m + 1)).2) := by show _ = _; rw [hL, if_neg hle]
              have g1 : decide (((v1 : Nat) : Int) ≤ ((u1 : Nat) : Int)) = false := by simp; omega
              have g2 : ¬ (((v1 : Nat) : Int) ≤ ((u1 : Nat) : Int)) := by omega
              clear hL
              go_wp2_with fail
              go_quiet (fail)
              go_wp2_with fail
              go_roundw
              case rel => exact ⟨m + 1, by omega, by rw [← HF2.out], by rw [← hi3]; go_num, HN.out.grown (grown_drewN _ _ _)⟩
              case measure => first | (simp [intOf]; done) | (simp [intOf]; omega)
      · obtain rfl : d = ss.length := by omega
        have hneg : (ss.length : Int) - 1 - (ss.length : Int) = -1 := by omega
        rw [hneg]
        have HE : Hid (∀ k, k < ss.length → rowK ss.length ag encN ss.length k = ((nextK ss.length ag k : Nat) : Int)) := fun k hk => by
          unfold rowK; rw [if_pos (by omega)]; rfl
        have HG : Hid (∀ k, k < ss.length → k < nextK ss.length ag k ∧ nextK ss.length ag k ≤ ss.length) := fun k hk => nextK_in ss.length ag k hk
        have hfb := (kp_bd ss.length ag ss.length (Nat.le_refl _)).2.2.1
        obtain ⟨f, hf⟩ : ∃ f, (kpV ss.length ag ss.length).2 = f := ⟨_, rfl⟩
        obtain ⟨gg, hgg⟩ : ∃ gg, nextK ss.length ag = gg := ⟨_, rfl⟩
        rw [hf] at hfb
        rw [hf]
        rw [hgg] at HG HE
        have HFQ := Lib.hid hf; have HGQ := Lib.hid hgg; have HFB := Lib.hid hfb
        have HROW := Lib.hid hM.out.r2
        have HBW := Lib.hid hM.out.g
        have HRB : Hid (T < wr.heap.size) := lt_of_block hM.out.r2
        clear hf hgg hM b3 hfb
        obtain ⟨i0, hi, hz0, hz1, hz2⟩ := info_parts info_int
        have HI := Lib.hid hi; have HZ0 := Lib.hid hz0; have HZ1 := Lib.hid hz1; have HZ2 := Lib.hid hz2
        clear hi hz0 hz1 hz2
        obtain ⟨we, hwe⟩ : ∃ we, we = wr := ⟨_, rfl⟩
        rw [← hwe] at HROW HBW HRB ⊢
        clear hwe
        go_wp2_with fail
        go_loopw [13, 14] (fun lv iv wl => ∃ (k x : Nat) (v : Value), v = lv ∧ Hid (pth gg f k = x) ∧ iv = .int .i64 (x : Nat) ∧ k ≤ x ∧ x ≤ ss.length ∧ Hid (∀ j, j < k → pth gg f j < ss.length) ∧ Hid (wl.ownsRow we.heap.size 3 1 v k (pthVs gg f k)) ∧ Hid (we.grownBy wl none))
          (fun _ iv _ => ss.length - (intOf iv).toNat)
        case atStart => exact ⟨0, f, _, rfl, rfl, rfl, Nat.zero_le _, HFB.out, fun j hj => absurd hj (Nat.not_lt_zero _), World.ownsRow_nil _ _ _ _, grown_refl _ _⟩
        case round =>
          obtain ⟨k, x, v, rfl, hx, rfl, hk, hxn, hall, hown, hg⟩ := hrel
          by_cases hlt : x < ss.length
          · have hgx := HG.out x hlt
            have hall2 : Hid (∀ j, j < k + 1 → pth gg f j < ss.length) := fun j hj => by
              rcases Nat.lt_or_ge j k with q | q
              · exact hall.out j q
              · obtain rfl : j = k := by omega
                rw [hx.out]; exact hlt
            have hx2 : Hid (pth gg f (k + 1) = gg x) := by show gg (pth gg f k) = gg x; rw [hx.out]
            have hvs : Hid (pthVs gg f (k + 1) = pthVs gg f k ++ [.int .i64 (x : Int)]) := by show _ = _; rw [pthVs_succ, hx.out]
            have cG := RowAt.cell (k := x) (HROW.out.grown hg.out) (by omega)
            rw [HE.out x hlt] at cG
            obtain ⟨y, hy⟩ : ∃ y, gg x = y := ⟨_, rfl⟩
            rw [hy] at cG hgx hx2
            have HCG : Hid (wr.cell? ⟨T, x, none⟩ = some (.int .i64 (y : Nat))) := cG
            have hlt2 := hown.out.lt
            have HCN : Hid (∀ j u, [Value.int .i64 (x : Int)][j]? = some u → (wr.alloc (.cells #[.int .i64 (x : Int)] 3)).cell? ((⟨wr.heap.size, 0, none⟩ : Addr).add j) = some u) := cell_one_new wr (.int .i64 (x : Int)) 3
            have hi := HI.out; have hz0 := HZ0.out; have hz1 := HZ1.out; have hz2 := HZ2.out
            have HSZ : Hid (we.heap.size ≤ wr.heap.size) := hg.out.size
            have HLR : Hid (T < wr.heap.size ∧ T < we.heap.size) := ⟨lt_of_block (HROW.out.grown hg.out), HRB.out⟩
            have x0 : (0 : Int) ≤ (x : Int) := by omega
            have xn2 : (x : Int) < (ss.length : Int) + 1 := by omega
            have xn : (x : Int) < (ss.length : Int) := by omega
            clear cG hall hx hy
            go_wp2_with (at_builtin; refine wpList_append_own _ rfl _ _ 45 rfl we.heap.size 3 i0 (.int .i64 0) 1 8 Try.underlying45 hi hz0 hz1 hz2 rfl (by decide) _ _ _ rfl (hown.out.alloc _) ⟨wr.heap.size, 0, none⟩ 1 1 [.int .i64 (x : Int)] rfl rfl (HCN.out) (by intro u hu; simp at hu; subst hu; rfl) (by unfold maxLen; omega) (by omega) (by have := HSZ.out; simp at *; omega) ?_; intro v' w2 hown' hgrow' _; have cG2 : w2.cell? ⟨T, x, none⟩ = some (.int .i64 (y : Nat)) := (World.cell?_of_block (a := ⟨T, x, none⟩) (hgrow'.block T (by have := HLR.out; simp; omega) (fun e => by have := (hlt2 _ e.symm).1; have := HLR.out; omega))).trans (grown_cell (World.grownBy_alloc _ _ _) HCG.out))
            have HO2 : Hid (w2.ownsRow we.heap.size 3 1 v' (k + 1) (pthVs gg f (k + 1))) := by
              show World.ownsRow _ _ _ _ _ _ _; rw [hvs.out]; exact hown'
            have G2 : Hid (we.grownBy w2 none) := grown_own hg.out hgrow' (fun q e => (hlt2 q e).1)
            clear hown hown' hgrow' hlt2 hg
            go_wp2_with fail
            go_roundw
            case rel => exact ⟨k + 1, y, _, rfl, hx2.out, rfl, by omega, by omega, hall2.out, HO2.out, G2.out⟩
            case measure => simp [intOf]; omega
          · obtain rfl : x = ss.length := by omega
            have HEND : Hid (PthEnd ss.length gg f k) := ⟨hall.out, hx.out⟩
            clear hall hx
            go_wp2_with fail
            go_ret2
            exact ⟨⟨_, k, rfl, by rw [HFQ.out, HGQ.out]; exact HEND.out, by rw [HFQ.out, HGQ.out]; exact own_low2 hown.out HBW.out.size⟩, grown_trans (grown_below HBW.out) hg.out⟩
end Go.Proofs.Ytfeolnlomhioaaa
