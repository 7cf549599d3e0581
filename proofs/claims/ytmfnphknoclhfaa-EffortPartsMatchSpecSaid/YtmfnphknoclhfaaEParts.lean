/- Parts of laps: lists of them in memory; what the seconds add up to; the contracts of Parts of both sides, for an activity that is right. -/
import Derived.Test.YtmfnphknoclhfaaEPartE
import Derived.Test.YtmfnphknoclhfaaEPartZ
import Derived.Test.YtmfnphknoclhfaaEApp
import Derived.OwnWalk
import Derived.Test.YtmfnphknoclhfaaEPartA
import Derived.Test.YtmfnphknoclhfaaERPart
namespace Go.Proofs.Ytmfnphknoclhfaa
open Go.RowKit

section
theorem laps_at {w : World} {ao : Option Addr} {l : List LapV} (h : LapsAt w ao l) (hne : 0 < l.length) : ∃ b off, ao = some ⟨b, off, none⟩ ∧ ∀ i (h : i < l.length), w.cell? ⟨b, off + i * 3, none⟩ = some (.int .i64 l[i].fr) ∧ w.cell? ⟨b, off + i * 3 + 1, none⟩ = some (.int .i64 l[i].to_) ∧ w.cell? ⟨b, off + i * 3 + 2, none⟩ = some (.string l[i].name) := by
  have hn : l ≠ [] := fun e => by rw [e] at hne; simp at hne
  cases hao : ao with
  | none => exact absurd (h.nil hao) hn
  | some a =>
    obtain ⟨b, off, s⟩ := a
    have hs := h.spot _ hao hn
    simp only at hs
    subst hs
    exact ⟨b, off, rfl, fun i hi => h.cells _ hao i hi⟩
theorem lapsE_in {sp : Int} : ∀ {l : List LapV} {e : Int}, 0 ≤ e → lapsE sp e l = 0 → ∀ x ∈ l, 0 ≤ x.fr ∧ x.fr < x.to_ ∧ x.to_ ≤ sp
  | [], _, _, _, x, hx => by simp at hx
  | y :: r, e, he, h, x, hx => by
    unfold lapsE at h
    split at h
    · omega
    · rename_i h1
      split at h
      · omega
      · split at h
        · rcases List.mem_cons.1 hx with rfl | hx
          · omega
          · exact lapsE_in (by omega) h x hx
        · omega

abbrev prCs (x : Prt) (f t : Int) : List Value := (x.cells f t).toList
def partsVs (P : Int → Int → Prt) (l : List LapV) : List Value := l.flatMap fun x => prCs (P x.fr x.to_) x.fr x.to_
theorem parts_snoc (P : Int → Int → Prt) (l : List LapV) {k : Nat} (h : k < l.length) : partsVs P (l.take (k + 1)) = partsVs P (l.take k) ++ prCs (P l[k].fr l[k].to_) l[k].fr l[k].to_ := by
  unfold partsVs
  rw [List.take_succ_eq_append_getElem h, List.flatMap_append]; simp
theorem info_part : (Try.prog.info? 44).map (fun i => (i.zero, i.size, i.bytes)) = some (some (.agg #[.int .i64 0, .int .i64 0, .int .i64 0, .int .i64 0, .int .i64 0, .int .i64 0, .int .i64 0, .int .i64 0, .int .i64 0, .int .i64 0]), 10, 80) := by kernel_rfl
theorem cells_new (w : World) (l : List Value) (t : TypeId) : ∀ j u, l[j]? = some u → (w.alloc (.cells l.toArray t)).cell? ((⟨w.heap.size, 0, none⟩ : Addr).add j) = some u := by
  intro j u hu
  have e : (⟨w.heap.size, 0, none⟩ : Addr).add j = ⟨w.heap.size, j, none⟩ := by unfold Addr.add; split <;> simp_all
  rw [e]
  have hh := heap_alloc_new w (.cells l.toArray t)
  exact (cell_of_row _ _ j _ _ (0, 0) hh).trans (by simpa using hu)
theorem parts_low {w : World} {base base' : Nat} {e : TypeId} {size : Nat} {v : Value} {n : Nat} {xs : List Value} (h : w.ownsRow base e size v n xs) (hb : base' ≤ base) : w.ownsRow base' e size v n xs :=
  ⟨h.1, h.2.imp id fun ⟨g, cap, cur, h1, h2, h3⟩ => ⟨g, cap, cur, h1, Nat.le_trans hb h2, h3⟩⟩

theorem pflat_at {α β : Type} (f : α → List β) (s : Nat) (hf : ∀ x, (f x).length = s) : ∀ (L : List α) (j i : Nat) (hj : j < L.length), i < s → (L.flatMap f)[j * s + i]? = (f L[j])[i]?
  | [], j, _, hj, _ => absurd hj (by simp)
  | x :: r, 0, i, _, hi => by
    rw [List.flatMap_cons, Nat.zero_mul, Nat.zero_add, List.getElem?_append_left (by rw [hf]; exact hi)]
    rfl
  | x :: r, j + 1, i, hj, hi => by
    have h := pflat_at f s hf r j i (by simpa using hj) hi
    rw [List.flatMap_cons, List.getElem?_append_right (by rw [hf, Nat.succ_mul]; omega), hf, show (j + 1) * s + i - s = j * s + i by rw [Nat.succ_mul]; omega, h]
    rfl
/-- A list of parts as a slice: where it lies. -/
theorem own_parts {w : World} {base : Nat} {v : Value} {P : Int → Int → Prt} {l : List LapV} (h : w.ownsRow base 44 10 v l.length (partsVs P l)) :
    ∃ ao cap, v = .slice ao l.length cap ∧ ∀ j (hj : j < l.length), ∃ g, ao = some ⟨g, 0, none⟩ ∧ ∀ i u, i < 10 → (prCs (P l[j].fr l[j].to_) l[j].fr l[j].to_)[i]? = some u → w.cell? ⟨g, j * 10 + i, none⟩ = some u := by
  rcases h.2 with ⟨hv, h0⟩ | ⟨g, cap, cur, hv, hb, hg, rest⟩
  · exact ⟨none, 0, by rw [hv, h0], fun j hj => absurd hj (by omega)⟩
  · refine ⟨some ⟨g, 0, none⟩, cap, hv, fun j hj => ⟨g, rfl, fun i u hi hu => ?_⟩⟩
    have q := h.cells (g := g) (by rw [hv]; rfl) (j * 10 + i) u (by unfold partsVs; rw [pflat_at (fun x : LapV => prCs (P x.fr x.to_) x.fr x.to_) 10 (fun _ => rfl) l j i hj hi]; exact hu)
    have e : (⟨g, 0, none⟩ : Addr).add (j * 10 + i) = ⟨g, j * 10 + i, none⟩ := by unfold Addr.add; split <;> simp_all
    rw [e] at q; exact q

set_option maxRecDepth 100000 in
set_option maxHeartbeats 1600000 in
theorem equal_parts {w : World} {base1 base2 : Nat} {v1 v2 : Value} {P : Int → Int → Prt} {l : List LapV} (h1 : w.ownsRow base1 44 10 v1 l.length (partsVs P l)) (h2 : w.ownsRow base2 44 10 v2 l.length (partsVs P l)) (hn : l.length ≤ 200) :
    Calls Try.prog 30 #[v1, v2] w fun e w' => e = .returned (.bool true) ∧ w.grownBy w' none := by
  obtain ⟨a1, c1, rfl, q1⟩ := own_parts h1
  obtain ⟨a2, c2, rfl, q2⟩ := own_parts h2
  have Q1 := Lib.hid q1; have Q2 := Lib.hid q2
  clear h1 h2 q1 q2
  go_enter Try.func30, Try.ntmps30
  go_wp2_with fail
  go_loopw [13] (fun iv wr => ∃ k : Nat, k ≤ l.length ∧ iv = .int .i64 k ∧ Hid (w.grownBy wr none)) (fun iv _ => l.length - (intOf iv).toNat)
  case atStart => exact ⟨0, Nat.zero_le _, rfl, grown_refl _ _⟩
  case round =>
    obtain ⟨k, hk, rfl, hg⟩ := hrel
    by_cases hlt : k < l.length
    · obtain ⟨g1, rfl, x⟩ := Q1.out k hlt
      obtain ⟨g2, rfl, y⟩ := Q2.out k hlt
      generalize P l[k].fr l[k].to_ = X at *
      generalize l[k].fr = f at *
      generalize l[k].to_ = t at *
      obtain ⟨z0, z1, z2, z3, z4, z5, z6, z7⟩ := X
      have x0 := grown_cell hg.out (x 0 _ (by omega) rfl); have x1 := grown_cell hg.out (x 1 _ (by omega) rfl); have x2 := grown_cell hg.out (x 2 _ (by omega) rfl); have x3 := grown_cell hg.out (x 3 _ (by omega) rfl); have x4 := grown_cell hg.out (x 4 _ (by omega) rfl)
      have x5 := grown_cell hg.out (x 5 _ (by omega) rfl); have x6 := grown_cell hg.out (x 6 _ (by omega) rfl); have x7 := grown_cell hg.out (x 7 _ (by omega) rfl); have x8 := grown_cell hg.out (x 8 _ (by omega) rfl); have x9 := grown_cell hg.out (x 9 _ (by omega) rfl)
      have y0 := grown_cell hg.out (y 0 _ (by omega) rfl); have y1 := grown_cell hg.out (y 1 _ (by omega) rfl); have y2 := grown_cell hg.out (y 2 _ (by omega) rfl); have y3 := grown_cell hg.out (y 3 _ (by omega) rfl); have y4 := grown_cell hg.out (y 4 _ (by omega) rfl)
      have y5 := grown_cell hg.out (y 5 _ (by omega) rfl); have y6 := grown_cell hg.out (y 6 _ (by omega) rfl); have y7 := grown_cell hg.out (y 7 _ (by omega) rfl); have y8 := grown_cell hg.out (y 8 _ (by omega) rfl); have y9 := grown_cell hg.out (y 9 _ (by omega) rfl)
      simp only [Nat.add_zero] at x0 y0
      clear x y
      go_wp2_with fail
      go_quiet (fail)
      go_wp2_with fail
      go_roundw
      case rel => exact ⟨k + 1, by omega, by go_num, grown_trans hg.out (grown_drewN _ _ _)⟩
      case measure => simp [intOf]; omega
    · go_wp2_with fail
      go_ret
      exact ⟨rfl, hg.out⟩
end

section
set_option maxRecDepth 100000 in
set_option maxHeartbeats 3200000 in
theorem Parts_ok (nm : ByteArray) (sp st : Int) (so : Option Addr) (sc : Nat) (ss : List Smp) (lo : Option Addr) (lc : Nat) (ls : List LapV) (to_ : Option Addr) (tc : Nat) (ts : List ByteArray) (hll : ls.length ≤ 200) (w : World)
    (HA : Hid (ActAt w ⟨nm, sp, st, so, sc, ss, lo, lc, ls, to_, tc, ts⟩)) (HCE : Hid (chkE ⟨nm, sp, st, so, sc, ss, lo, lc, ls, to_, tc, ts⟩ = 0)) (HS : Hid (SOk ss)) (HLB : Hid (∀ x ∈ ls, 0 ≤ x.fr ∧ x.fr < x.to_ ∧ x.to_ ≤ spanL ss)) :
    Calls Try.prog 28 #[.agg #[.string nm, .int .i64 sp, .int .i64 st, .slice so ss.length sc, .slice lo ls.length lc, .slice to_ ts.length tc]] w fun e w' => (∃ v, e = .returned (.tuple #[v, .int .i64 0]) ∧ w'.ownsRow w.heap.size 44 10 v ls.length (partsVs (partP ss) ls)) ∧ w.grownBy w' none := by
  obtain ⟨SP, hSP⟩ : ∃ SP, spanL ss = SP := ⟨_, rfl⟩
  have HSP0 := Lib.hid hSP
  have hspl : SP ≤ 1000000 := by
    have := span_len 4 HS.out; have := streamS_len (kind := 4) HS.out; omega
  have hsp0 : 0 ≤ SP := by have := span_len 4 HS.out; omega
  rw [hSP] at HLB
  clear hSP
  obtain ⟨n, rfl⟩ := Int.eq_ofNat_of_zero_le hsp0
  have HSP : Hid (spanL ss = (n : Int)) := HSP0.out
  have hn6 : n ≤ 1000000 := by omega
  obtain ⟨j0, ji, jz0, jz1, jz2⟩ := info_parts info_part
  have HJI := Lib.hid ji; have HJ0 := Lib.hid jz0; have HJ1 := Lib.hid jz1; have HJ2 := Lib.hid jz2
  clear ji jz0 jz1 jz2 HSP0 hspl hsp0
  go_enter Try.func28, Try.ntmps28
  have GB : Hid (w.grownBy (w.alloc (.cells #[.string nm, .int .i64 sp, .int .i64 st, .slice so ss.length sc, .slice lo ls.length lc, .slice to_ ts.length tc] 42)) none) := World.grownBy_alloc _ _ _
  have RB : Hid ((w.alloc (.cells #[.string nm, .int .i64 sp, .int .i64 st, .slice so ss.length sc, .slice lo ls.length lc, .slice to_ ts.length tc] 42)).heap[w.heap.size]? = some (.cells #[.string nm, .int .i64 sp, .int .i64 st, .slice so ss.length sc, .slice lo ls.length lc, .slice to_ ts.length tc] 42 (0, 0))) := heap_alloc_new _ _
  go_wp2_with fail
  refine (check_any ⟨nm, sp, st, so, sc, ss, lo, lc, ls, to_, tc, ts⟩ _ (HA.out.grown GB.out) HCE).mono ?_; rintro e w1 ⟨rfl, hg1⟩
  have G1 := Lib.hid (grown_trans GB.out hg1)
  have R1 : Hid (w1.heap[w.heap.size]? = some (.cells #[.string nm, .int .i64 sp, .int .i64 st, .slice so ss.length sc, .slice lo ls.length lc, .slice to_ ts.length tc] 42 (0, 0))) := (hg1.block _ (Array.getElem?_eq_some_iff.1 RB.out).1 (by simp)).trans RB.out
  have b0 : w1.cell? ⟨w.heap.size, 0, none⟩ = some (.string nm) := by have := R1.out; simp [World.cell?, this]
  have b1 : w1.cell? ⟨w.heap.size, 1, none⟩ = some (.int .i64 sp) := by have := R1.out; simp [World.cell?, this]
  have b2 : w1.cell? ⟨w.heap.size, 2, none⟩ = some (.int .i64 st) := by have := R1.out; simp [World.cell?, this]
  have b3 : w1.cell? ⟨w.heap.size, 3, none⟩ = some (.slice so ss.length sc) := by have := R1.out; simp [World.cell?, this]
  have b4 : w1.cell? ⟨w.heap.size, 4, none⟩ = some (.slice lo ls.length lc) := by have := R1.out; simp [World.cell?, this]
  have b5 : w1.cell? ⟨w.heap.size, 5, none⟩ = some (.slice to_ ts.length tc) := by have := R1.out; simp [World.cell?, this]
  clear hg1 GB RB
  go_wp2_with fail
  have HW0 : Hid (w.heap.size + 1 ≤ w1.heap.size) := by
    show _ ≤ _
    have := (Array.getElem?_eq_some_iff.1 R1.out).1
    omega
  go_loopw [5, 16] (fun lv iv wr => ∃ (k : Nat) (v : Value), v = lv ∧ iv = .int .i64 k ∧ k ≤ ls.length ∧ Hid (w1.grownBy wr none) ∧ Hid (wr.ownsRow w1.heap.size 44 10 v k (partsVs (partP ss) (ls.take k))))
    (fun _ iv _ => ls.length - (intOf iv).toNat)
  case atStart => exact ⟨0, _, rfl, rfl, Nat.zero_le _, grown_refl _ _, World.ownsRow_nil _ _ _ _⟩
  case round =>
    obtain ⟨k, v, rfl, rfl, hk, hg, hown⟩ := hrel
    by_cases hlt : k < ls.length
    · have hlp : 0 < ls.length := by omega
      obtain ⟨lb, loff, rfl, hlc⟩ := laps_at (show LapsAt w lo ls from HA.out.hl) hlp
      obtain ⟨c0, c1, c2⟩ := hlc k hlt
      replace c0 := grown_cell (grown_trans G1.out hg.out) c0; replace c1 := grown_cell (grown_trans G1.out hg.out) c1; replace c2 := grown_cell (grown_trans G1.out hg.out) c2
      obtain ⟨x0, x1, x2⟩ := HLB.out ls[k] (List.getElem_mem hlt)
      have HSN : Hid (partsVs (partP ss) (ls.take (k + 1)) = partsVs (partP ss) (ls.take k) ++ prCs (partP ss ls[k].fr ls[k].to_) ls[k].fr ls[k].to_) := parts_snoc _ _ hlt
      have HSA : Hid (SmpsAt wr so ss) := (HA.out.grown (grown_trans G1.out hg.out)).hs
      have GWR := World.grownBy_alloc wr (.cells #[.int .i64 ls[k].fr, .int .i64 ls[k].to_, .string ls[k].name] 83) none
      generalize hL1 : partsVs (partP ss) (ls.take (k + 1)) = L1 at *
      have HL1 := Lib.hid hL1
      clear hL1
      generalize partsVs (partP ss) (ls.take k) = L0 at *
      generalize hlk : ls[k] = lp at *
      obtain ⟨f, t, lnm⟩ := lp
      simp only at c0 c1 c2 x0 x1 x2 HSN GWR
      have hk200 : k ≤ 200 := by omega
      have RW := (R1.out)
      replace RW := ((grown_trans hg.out GWR).block _ (Array.getElem?_eq_some_iff.1 R1.out).1 (by simp)).trans RW
      clear hlc hlk
      have d0 : (wr.alloc (.cells #[.int .i64 f, .int .i64 t, .string lnm] 83)).cell? ⟨w.heap.size, 0, none⟩ = some (.string nm) := by simp [World.cell?, RW]
      have d1 : (wr.alloc (.cells #[.int .i64 f, .int .i64 t, .string lnm] 83)).cell? ⟨w.heap.size, 1, none⟩ = some (.int .i64 sp) := by simp [World.cell?, RW]
      have d2 : (wr.alloc (.cells #[.int .i64 f, .int .i64 t, .string lnm] 83)).cell? ⟨w.heap.size, 2, none⟩ = some (.int .i64 st) := by simp [World.cell?, RW]
      have d3 : (wr.alloc (.cells #[.int .i64 f, .int .i64 t, .string lnm] 83)).cell? ⟨w.heap.size, 3, none⟩ = some (.slice so ss.length sc) := by simp [World.cell?, RW]
      have d4 : (wr.alloc (.cells #[.int .i64 f, .int .i64 t, .string lnm] 83)).cell? ⟨w.heap.size, 4, none⟩ = some (.slice (some ⟨lb, loff, none⟩) ls.length lc) := by simp [World.cell?, RW]
      have d5 : (wr.alloc (.cells #[.int .i64 f, .int .i64 t, .string lnm] 83)).cell? ⟨w.heap.size, 5, none⟩ = some (.slice to_ ts.length tc) := by simp [World.cell?, RW]
      have q0 : (wr.alloc (.cells #[.int .i64 f, .int .i64 t, .string lnm] 83)).cell? ⟨wr.heap.size, 0, none⟩ = some (.int .i64 f) := by go_simp
      have q1 : (wr.alloc (.cells #[.int .i64 f, .int .i64 t, .string lnm] 83)).cell? ⟨wr.heap.size, 1, none⟩ = some (.int .i64 t) := by go_simp
      obtain ⟨X, hX⟩ : ∃ X, partP ss f t = X := ⟨_, rfl⟩
      rw [hX] at HSN
      have HX := Lib.hid hX
      have HSA2 : Hid (SmpsAt (wr.alloc (.cells #[.int .i64 f, .int .i64 t, .string lnm] 83)) so ss) := HSA.out.grown GWR
      have HG2 : Hid (w1.grownBy (wr.alloc (.cells #[.int .i64 f, .int .i64 t, .string lnm] 83)) none) := grown_trans hg.out GWR
      have HO2 : Hid ((wr.alloc (.cells #[.int .i64 f, .int .i64 t, .string lnm] 83)).ownsRow w1.heap.size 44 10 v k L0) := hown.out.alloc _
      clear hX hg hown GWR RW
      go_wp2_with fail
      refine (partOf_any nm sp st so sc ss _ lc ls to_ tc ts f t (by omega) x0 (by omega) _ HSA2 HS HX).mono ?_; rintro e wx ⟨rfl, hgx⟩
      obtain ⟨y0, y1, y2, y3, y4, y5, y6, y7⟩ := X
      have HGX : Hid (w1.grownBy wx none) := grown_trans HG2.out hgx
      have HOX : Hid (wx.ownsRow w1.heap.size 44 10 v k L0) := HO2.out.kept hgx (Classical.em _)
      have HCN : Hid (∀ j u, [.int .i64 f, .int .i64 t, .int .i64 y0, .int .i64 y1, .int .i64 y2, .int .i64 y3, .int .i64 y4, .int .i64 y5, .int .i64 y6, .int .i64 y7][j]? = some u → (wx.alloc (.cells #[.int .i64 f, .int .i64 t, .int .i64 y0, .int .i64 y1, .int .i64 y2, .int .i64 y3, .int .i64 y4, .int .i64 y5, .int .i64 y6, .int .i64 y7] 44)).cell? ((⟨wx.heap.size, 0, none⟩ : Addr).add j) = some u) := cells_new wx [.int .i64 f, .int .i64 t, .int .i64 y0, .int .i64 y1, .int .i64 y2, .int .i64 y3, .int .i64 y4, .int .i64 y5, .int .i64 y6, .int .i64 y7] 44
      clear hgx c0 c1 c2 q0 q1 d0 d1 d2 d3 d4 d5
      have ji := HJI.out; have jz0 := HJ0.out; have jz1 := HJ1.out; have jz2 := HJ2.out
      have SZ := HGX.out.size
      have SZ0 := HW0.out
      go_wp2_with (first
        | (at_builtin; refine wpList_append_own _ rfl _ _ 47 rfl w1.heap.size 44 j0 (.agg #[.int .i64 0, .int .i64 0, .int .i64 0, .int .i64 0, .int .i64 0, .int .i64 0, .int .i64 0, .int .i64 0, .int .i64 0, .int .i64 0]) 10 80 Try.underlying47 ji jz0 jz1 jz2 rfl (by decide) _ _ _ rfl (HOX.out.alloc _) ⟨wx.heap.size, 0, none⟩ 1 1 [.int .i64 f, .int .i64 t, .int .i64 y0, .int .i64 y1, .int .i64 y2, .int .i64 y3, .int .i64 y4, .int .i64 y5, .int .i64 y6, .int .i64 y7] rfl rfl (HCN.out) (by intro u hu; simp only [List.mem_cons, List.not_mem_nil, or_false] at hu; rcases hu with rfl | rfl | rfl | rfl | rfl | rfl | rfl | rfl | rfl | rfl <;> rfl) (by unfold maxLen; omega) (by omega) (by simp; omega) ?_; intro v' w3' hown' hgrow' _))
      have hlt2 := HOX.out.lt
      have GN : Hid (w1.grownBy w3' none) := grown_own HGX.out hgrow' (fun g e => (hlt2 g e).1)
      have HO3 : Hid (w3'.ownsRow w1.heap.size 44 10 v' (k + 1) L1) := by
        show World.ownsRow _ _ _ _ _ _ _; rw [HSN.out]; exact hown'
      clear hown' hgrow' hlt2 SZ SZ0 ji jz0 jz1 jz2
      go_wp2_with fail
      go_roundw
      case rel => exact ⟨k + 1, _, rfl, by go_num, by omega, GN.out, (by show World.ownsRow _ _ _ _ _ _ _; rw [HL1.out]; exact HO3.out)⟩
      case measure => simp [intOf]; omega
    · obtain rfl : k = ls.length := by omega
      have HOF : Hid (wr.ownsRow w.heap.size 44 10 v ls.length (partsVs (partP ss) ls)) := by
        have q := hown.out
        rw [List.take_length] at q
        exact parts_low q (by have := HW0.out; omega)
      have HGF : Hid (w.grownBy wr none) := grown_trans G1.out hg.out
      clear hown hg
      go_wp2_with fail
      go_ret2
      exact ⟨⟨_, rfl, HOF.out⟩, HGF.out⟩
end

section
theorem knS_app : ∀ (a b : List Int), knS (a ++ b) = knS a + knS b
  | [], b => by simp [knS]
  | x :: r, b => by rw [List.cons_append, knS, knS, knS_app r b]; omega
theorem knK_app : ∀ (a b : List Int), knK (a ++ b) = knK a + knK b
  | [], b => by simp [knK]
  | x :: r, b => by rw [List.cons_append, knK, knK, knK_app r b]; omega
theorem knS_seg (F T : Nat) (h : F ≤ T) (l : List Int) : knS (segL F T l) = knS (l.take T) - knS (l.take F) := by
  have e : l.take T = l.take F ++ segL F T l := by
    unfold segL
    rw [show T = F + (T - F) by omega, List.take_add, show F + (T - F) - F = T - F by omega]
  rw [e, knS_app]; omega
theorem knK_seg (F T : Nat) (h : F ≤ T) (l : List Int) : knK (segL F T l) = knK (l.take T) - knK (l.take F) := by
  have e : l.take T = l.take F ++ segL F T l := by
    unfold segL
    rw [show T = F + (T - F) by omega, List.take_add, show F + (T - F) - F = T - F by omega]
  rw [e, knK_app]; omega
theorem stepTo_take (kind : Int) (p q : Smp) (m n : Nat) : (stepTo kind p q m).take n = stepTo kind p q (min n m) := by
  unfold stepTo; rw [← List.map_take, List.take_range]

/-- The shares of an amount, one behind the other. -/
theorem knS_amt {kind : Int} (hk : 4 ≤ kind) {p q : Smp} (h : StepIn p q) : ∀ j : Nat, (j : Int) ≤ q.t - p.t → knS (stepTo kind p q j) = upto (amtE p q kind) (q.t - p.t) j
  | 0, _ => by simp [stepTo, knS, upto]
  | j + 1, hj => by
    have ih := knS_amt hk h j (by omega)
    have hA := amtE_bd h kind
    have hp := h.t.pq
    have m := upto_mono hA.1 (by omega : 1 ≤ q.t - p.t) (a := (j : Int)) (b := ((j + 1 : Nat) : Int)) (by omega) (by omega)
    rw [stepTo_succ, knS_app, ih]
    unfold stepN
    rw [if_pos hk, knS, knS, if_pos (by omega)]
    omega
theorem knS_val {kind : Int} (hk : ¬ 4 ≤ kind) (p q : Smp) : ∀ j : Nat, knS (stepTo kind p q j) = if valE p q kind < 0 then 0 else valE p q kind * j
  | 0 => by simp [stepTo, knS]
  | j + 1 => by
    have ih := knS_val hk p q j
    rw [stepTo_succ, knS_app, ih]
    unfold stepN
    rw [if_neg hk, knS, knS]
    generalize valE p q kind = v
    by_cases hv : v < 0
    · rw [if_pos hv, if_neg (by omega), if_pos hv]; rfl
    · rw [if_neg hv, if_pos (by omega), if_neg hv, Int.natCast_add, Int.mul_add]; simp
theorem knK_val {kind : Int} (hk : ¬ 4 ≤ kind) (p q : Smp) : ∀ j : Nat, knK (stepTo kind p q j) = if valE p q kind < 0 then 0 else (j : Int)
  | 0 => by simp [stepTo, knK]
  | j + 1 => by
    have ih := knK_val hk p q j
    rw [stepTo_succ, knK_app, ih]
    unfold stepN
    rw [if_neg hk, knK, knK]
    generalize valE p q kind = v
    by_cases hv : v < 0
    · rw [if_pos hv, if_neg (by omega), if_pos hv]; rfl
    · rw [if_neg hv, if_pos (by omega), if_neg hv]; omega

/-- Where the first seconds of a step end. -/
theorem inStep_nat {p q : Smp} (h : TimesOk p q) (x n : Nat) (hn : (n : Int) = p.t) : inStep p q x - p.t = ((min (x - n) (q.t - p.t).toNat : Nat) : Int) := by
  have a := h.pq
  unfold inStep
  split
  · omega
  · split <;> omega
theorem take_str {ss : List Smp} (x : Nat) (kind : Int) (i : Nat) :
    (strL kind ss (i + 1)).take x = (strL kind ss i).take x ++ stepTo kind (smpD ss i) (smpD ss (i + 1)) (min (x - (strL kind ss i).length) ((smpD ss (i + 1)).t - (smpD ss i).t).toNat) := by
  rw [strL, List.take_append, stepS, stepTo_take]
section
variable {ss : List Smp} (h : SOk ss) (x : Nat)
include h
theorem knS_strA {kind : Int} (hk : 4 ≤ kind) : ∀ i, i < ss.length → knS ((strL kind ss i).take x) = sumG (gA kind) ss x i
  | 0, _ => by simp [strL, sumG, knS]
  | i + 1, hi => by
    have ih := knS_strA hk i (by omega)
    have hl := strL_len (kind := kind) h i (by omega)
    have hs := h.stepIn hi
    have hp := hs.t.pq
    rw [take_str x kind i, knS_app, ih, sumG, gA_eq, inStep_nat hs.t x _ hl, knS_amt hk hs _ (by omega)]
theorem knS_strV {kind : Int} (hk : ¬ 4 ≤ kind) : ∀ i, i < ss.length → knS ((strL kind ss i).take x) = sumG (gV kind) ss x i
  | 0, _ => by simp [strL, sumG, knS]
  | i + 1, hi => by
    have ih := knS_strV hk i (by omega)
    have hl := strL_len (kind := kind) h i (by omega)
    have hs := h.stepIn hi
    rw [take_str x kind i, knS_app, ih, sumG, gV_eq, inStep_nat hs.t x _ hl, knS_val hk]
theorem knK_strV {kind : Int} (hk : ¬ 4 ≤ kind) : ∀ i, i < ss.length → knK ((strL kind ss i).take x) = sumG (gK kind) ss x i
  | 0, _ => by simp [strL, sumG, knK]
  | i + 1, hi => by
    have ih := knK_strV hk i (by omega)
    have hl := strL_len (kind := kind) h i (by omega)
    have hs := h.stepIn hi
    rw [take_str x kind i, knK_app, ih, sumG, gK_eq, inStep_nat hs.t x _ hl, knK_val hk]
end
/-- Both sides' parts are the same. -/
theorem part_same {ss : List Smp} (h : SOk ss) (h0 : 0 < ss.length) {f t : Int} (f0 : 0 ≤ f) (hft : f ≤ t) : partR ss f t = prtN ss f t (ss.length - 1) := by
  obtain ⟨F, rfl⟩ : ∃ n : Nat, f = n := ⟨f.toNat, by omega⟩
  obtain ⟨T, rfl⟩ : ∃ n : Nat, t = n := ⟨t.toNat, by omega⟩
  have hFT : F ≤ T := by omega
  unfold partR prtN streamS
  simp only [Int.toNat_natCast]
  rw [knS_seg F T hFT, knS_seg F T hFT, knS_seg F T hFT, knS_seg F T hFT, knS_seg F T hFT, knK_seg F T hFT, knK_seg F T hFT, knK_seg F T hFT]
  have hl : ss.length - 1 < ss.length := by omega
  rw [knS_strA h T (by decide : (4 : Int) ≤ 4) _ hl, knS_strA h F (by decide : (4 : Int) ≤ 4) _ hl, knS_strA h T (by decide : (4 : Int) ≤ 5) _ hl, knS_strA h F (by decide : (4 : Int) ≤ 5) _ hl,
    knS_strV h T (by decide : ¬ (4 : Int) ≤ 1) _ hl, knS_strV h F (by decide : ¬ (4 : Int) ≤ 1) _ hl, knS_strV h T (by decide : ¬ (4 : Int) ≤ 2) _ hl, knS_strV h F (by decide : ¬ (4 : Int) ≤ 2) _ hl, knS_strV h T (by decide : ¬ (4 : Int) ≤ 3) _ hl, knS_strV h F (by decide : ¬ (4 : Int) ≤ 3) _ hl,
    knK_strV h T (by decide : ¬ (4 : Int) ≤ 1) _ hl, knK_strV h F (by decide : ¬ (4 : Int) ≤ 1) _ hl, knK_strV h T (by decide : ¬ (4 : Int) ≤ 2) _ hl, knK_strV h F (by decide : ¬ (4 : Int) ≤ 2) _ hl, knK_strV h T (by decide : ¬ (4 : Int) ≤ 3) _ hl, knK_strV h F (by decide : ¬ (4 : Int) ≤ 3) _ hl]
theorem part_none {ss : List Smp} (h0 : ss.length = 0) (f t : Int) : partR ss f t = prtN ss f t 0 := by
  have : ss = [] := List.eq_nil_of_length_eq_zero h0
  subst this
  unfold partR prtN streamS segL
  simp [strL, sumG, knS, knK]
end

section
set_option maxRecDepth 100000 in
set_option maxHeartbeats 3200000 in
theorem rParts_ok (nm : ByteArray) (sp st : Int) (so : Option Addr) (sc : Nat) (ss : List Smp) (lo : Option Addr) (lc : Nat) (ls : List LapV) (to_ : Option Addr) (tc : Nat) (ts : List ByteArray) (hll : ls.length ≤ 200) (w : World)
    (HA : Hid (ActAt w ⟨nm, sp, st, so, sc, ss, lo, lc, ls, to_, tc, ts⟩)) (HCE : Hid (chkE ⟨nm, sp, st, so, sc, ss, lo, lc, ls, to_, tc, ts⟩ = 0)) (HS : Hid (SOk ss)) (HLB : Hid (∀ x ∈ ls, 0 ≤ x.fr ∧ x.fr < x.to_ ∧ x.to_ ≤ spanL ss)) :
    Calls Try.prog 29 #[.agg #[.string nm, .int .i64 sp, .int .i64 st, .slice so ss.length sc, .slice lo ls.length lc, .slice to_ ts.length tc]] w fun e w' => (∃ v, e = .returned (.tuple #[v, .int .i64 0]) ∧ w'.ownsRow w.heap.size 44 10 v ls.length (partsVs (partR ss) ls)) ∧ w.grownBy w' none := by
  obtain ⟨SP, hSP⟩ : ∃ SP, spanL ss = SP := ⟨_, rfl⟩
  have HSP0 := Lib.hid hSP
  have hspl : SP ≤ 1000000 := by
    have := span_len 4 HS.out; have := streamS_len (kind := 4) HS.out; omega
  have hsp0 : 0 ≤ SP := by have := span_len 4 HS.out; omega
  rw [hSP] at HLB
  clear hSP
  obtain ⟨n, rfl⟩ := Int.eq_ofNat_of_zero_le hsp0
  have HSP : Hid (spanL ss = (n : Int)) := HSP0.out
  have hn6 : n ≤ 1000000 := by omega
  obtain ⟨j0, ji, jz0, jz1, jz2⟩ := info_parts info_part
  have HJI := Lib.hid ji; have HJ0 := Lib.hid jz0; have HJ1 := Lib.hid jz1; have HJ2 := Lib.hid jz2
  clear ji jz0 jz1 jz2 HSP0 hspl hsp0
  go_enter Try.func29, Try.ntmps29
  have GB : Hid (w.grownBy (w.alloc (.cells #[.string nm, .int .i64 sp, .int .i64 st, .slice so ss.length sc, .slice lo ls.length lc, .slice to_ ts.length tc] 42)) none) := World.grownBy_alloc _ _ _
  have RB : Hid ((w.alloc (.cells #[.string nm, .int .i64 sp, .int .i64 st, .slice so ss.length sc, .slice lo ls.length lc, .slice to_ ts.length tc] 42)).heap[w.heap.size]? = some (.cells #[.string nm, .int .i64 sp, .int .i64 st, .slice so ss.length sc, .slice lo ls.length lc, .slice to_ ts.length tc] 42 (0, 0))) := heap_alloc_new _ _
  go_wp2_with fail
  refine (rcheck_any ⟨nm, sp, st, so, sc, ss, lo, lc, ls, to_, tc, ts⟩ _ (HA.out.grown GB.out) HCE).mono ?_; rintro e w1 ⟨rfl, hg1⟩
  have G1 := Lib.hid (grown_trans GB.out hg1)
  have R1 : Hid (w1.heap[w.heap.size]? = some (.cells #[.string nm, .int .i64 sp, .int .i64 st, .slice so ss.length sc, .slice lo ls.length lc, .slice to_ ts.length tc] 42 (0, 0))) := (hg1.block _ (Array.getElem?_eq_some_iff.1 RB.out).1 (by simp)).trans RB.out
  have b0 : w1.cell? ⟨w.heap.size, 0, none⟩ = some (.string nm) := by have := R1.out; simp [World.cell?, this]
  have b1 : w1.cell? ⟨w.heap.size, 1, none⟩ = some (.int .i64 sp) := by have := R1.out; simp [World.cell?, this]
  have b2 : w1.cell? ⟨w.heap.size, 2, none⟩ = some (.int .i64 st) := by have := R1.out; simp [World.cell?, this]
  have b3 : w1.cell? ⟨w.heap.size, 3, none⟩ = some (.slice so ss.length sc) := by have := R1.out; simp [World.cell?, this]
  have b4 : w1.cell? ⟨w.heap.size, 4, none⟩ = some (.slice lo ls.length lc) := by have := R1.out; simp [World.cell?, this]
  have b5 : w1.cell? ⟨w.heap.size, 5, none⟩ = some (.slice to_ ts.length tc) := by have := R1.out; simp [World.cell?, this]
  clear hg1 GB RB
  go_wp2_with fail
  refine (rstreams_any nm sp st so sc ss lo lc ls to_ tc ts n _ (Lib.hid (HA.out.grown G1.out)) HCE HS HSP).mono ?_; rintro e w3 ⟨⟨v1, v2, v3, v4, v5, rfl, d1, d2, d3, d4, d5⟩, hg3⟩
  obtain ⟨ao1, cc1, rfl, s1, _⟩ := d1
  obtain ⟨ao2, cc2, rfl, s2, _⟩ := d2
  obtain ⟨ao3, cc3, rfl, s3, _⟩ := d3
  obtain ⟨ao4, cc4, rfl, s4, _⟩ := d4
  obtain ⟨ao5, cc5, rfl, s5, _⟩ := d5
  have GA3 := World.grownBy_alloc w3 (.cells #[.slice none 0 0, .slice ao1 n cc1, .slice ao2 n cc2, .slice ao3 n cc3, .slice ao4 n cc4, .slice ao5 n cc5] 134) none
  have S1 := Lib.hid (s1.grown GA3)
  have S2 := Lib.hid (s2.grown GA3)
  have S3 := Lib.hid (s3.grown GA3)
  have S4 := Lib.hid (s4.grown GA3)
  have S5 := Lib.hid (s5.grown GA3)
  have G3 := Lib.hid (grown_trans (grown_trans G1.out hg3) GA3)
  have R3 : Hid ((w3.alloc (.cells #[.slice none 0 0, .slice ao1 n cc1, .slice ao2 n cc2, .slice ao3 n cc3, .slice ao4 n cc4, .slice ao5 n cc5] 134)).heap[w.heap.size]? = some (.cells #[.string nm, .int .i64 sp, .int .i64 st, .slice so ss.length sc, .slice lo ls.length lc, .slice to_ ts.length tc] 42 (0, 0))) := ((grown_trans hg3 GA3).block _ (Array.getElem?_eq_some_iff.1 R1.out).1 (by simp)).trans R1.out
  have Q3 : Hid ((w3.alloc (.cells #[.slice none 0 0, .slice ao1 n cc1, .slice ao2 n cc2, .slice ao3 n cc3, .slice ao4 n cc4, .slice ao5 n cc5] 134)).heap[w3.heap.size]? = some (.cells #[.slice none 0 0, .slice ao1 n cc1, .slice ao2 n cc2, .slice ao3 n cc3, .slice ao4 n cc4, .slice ao5 n cc5] 134 (0, 0))) := heap_alloc_new _ _
  have HB3 : Hid (w.heap.size < w3.heap.size) := by
    show _ < _
    have h1 := (Array.getElem?_eq_some_iff.1 R1.out).1
    have h2 := hg3.size
    omega
  have e0 : (w3.alloc (.cells #[.slice none 0 0, .slice ao1 n cc1, .slice ao2 n cc2, .slice ao3 n cc3, .slice ao4 n cc4, .slice ao5 n cc5] 134)).cell? ⟨w.heap.size, 0, none⟩ = some (.string nm) := by have := R3.out; simp [World.cell?, this]
  have e1 : (w3.alloc (.cells #[.slice none 0 0, .slice ao1 n cc1, .slice ao2 n cc2, .slice ao3 n cc3, .slice ao4 n cc4, .slice ao5 n cc5] 134)).cell? ⟨w.heap.size, 1, none⟩ = some (.int .i64 sp) := by have := R3.out; simp [World.cell?, this]
  have e2 : (w3.alloc (.cells #[.slice none 0 0, .slice ao1 n cc1, .slice ao2 n cc2, .slice ao3 n cc3, .slice ao4 n cc4, .slice ao5 n cc5] 134)).cell? ⟨w.heap.size, 2, none⟩ = some (.int .i64 st) := by have := R3.out; simp [World.cell?, this]
  have e3 : (w3.alloc (.cells #[.slice none 0 0, .slice ao1 n cc1, .slice ao2 n cc2, .slice ao3 n cc3, .slice ao4 n cc4, .slice ao5 n cc5] 134)).cell? ⟨w.heap.size, 3, none⟩ = some (.slice so ss.length sc) := by have := R3.out; simp [World.cell?, this]
  have e4 : (w3.alloc (.cells #[.slice none 0 0, .slice ao1 n cc1, .slice ao2 n cc2, .slice ao3 n cc3, .slice ao4 n cc4, .slice ao5 n cc5] 134)).cell? ⟨w.heap.size, 4, none⟩ = some (.slice lo ls.length lc) := by have := R3.out; simp [World.cell?, this]
  have e5 : (w3.alloc (.cells #[.slice none 0 0, .slice ao1 n cc1, .slice ao2 n cc2, .slice ao3 n cc3, .slice ao4 n cc4, .slice ao5 n cc5] 134)).cell? ⟨w.heap.size, 5, none⟩ = some (.slice to_ ts.length tc) := by have := R3.out; simp [World.cell?, this]
  clear hg3 GA3 s1 s2 s3 s4 s5 b0 b1 b2 b3 b4 b5
  go_wp2_with fail
  obtain ⟨W3, hW3⟩ : ∃ W3, (w3.alloc (.cells #[.slice none 0 0, .slice ao1 n cc1, .slice ao2 n cc2, .slice ao3 n cc3, .slice ao4 n cc4, .slice ao5 n cc5] 134)) = W3 := ⟨_, rfl⟩
  obtain ⟨Z, hZ⟩ : ∃ Z, w3.heap.size = Z := ⟨_, rfl⟩
  rw [hW3] at G3 R3 Q3 S1 S2 S3 S4 S5 e0 e1 e2 e3 e4 e5
  rw [hZ] at Q3 HB3
  rw [hW3, hZ]
  clear hW3 hZ
  have HW0 : Hid (w.heap.size + 1 ≤ W3.heap.size) := by
    show _ ≤ _
    have := (Array.getElem?_eq_some_iff.1 R3.out).1
    omega
  go_loopw [6, 19] (fun lv iv wr => ∃ (k : Nat) (v : Value), v = lv ∧ iv = .int .i64 k ∧ k ≤ ls.length ∧ Hid (W3.grownBy wr none) ∧ Hid (wr.ownsRow W3.heap.size 44 10 v k (partsVs (partR ss) (ls.take k))))
    (fun _ iv _ => ls.length - (intOf iv).toNat)
  case atStart => exact ⟨0, _, rfl, rfl, Nat.zero_le _, grown_refl _ _, World.ownsRow_nil _ _ _ _⟩
  case round =>
    obtain ⟨k, v, rfl, rfl, hk, hg, hown⟩ := hrel
    by_cases hlt : k < ls.length
    · have hlp : 0 < ls.length := by omega
      obtain ⟨lb, loff, rfl, hlc⟩ := laps_at (show LapsAt w lo ls from HA.out.hl) hlp
      obtain ⟨c0, c1, c2⟩ := hlc k hlt
      replace c0 := grown_cell (grown_trans G3.out hg.out) c0; replace c1 := grown_cell (grown_trans G3.out hg.out) c1; replace c2 := grown_cell (grown_trans G3.out hg.out) c2
      obtain ⟨x0, x1, x2⟩ := HLB.out ls[k] (List.getElem_mem hlt)
      have HSN : Hid (partsVs (partR ss) (ls.take (k + 1)) = partsVs (partR ss) (ls.take k) ++ prCs (partR ss ls[k].fr ls[k].to_) ls[k].fr ls[k].to_) := parts_snoc _ _ hlt
      have HSA : Hid (SmpsAt wr so ss) := (HA.out.grown (grown_trans G3.out hg.out)).hs
      have GWR := World.grownBy_alloc wr (.cells #[.int .i64 ls[k].fr, .int .i64 ls[k].to_, .string ls[k].name] 83) none
      generalize hL1 : partsVs (partR ss) (ls.take (k + 1)) = L1 at *
      have HL1 := Lib.hid hL1
      clear hL1
      generalize partsVs (partR ss) (ls.take k) = L0 at *
      generalize hlk : ls[k] = lp at *
      obtain ⟨f, t, lnm⟩ := lp
      simp only at c0 c1 c2 x0 x1 x2 HSN GWR
      have hk200 : k ≤ 200 := by omega
      have RW := (R3.out)
      replace RW := ((grown_trans hg.out GWR).block _ (Array.getElem?_eq_some_iff.1 R3.out).1 (by simp)).trans RW
      clear hlc hlk
      have d0 : (wr.alloc (.cells #[.int .i64 f, .int .i64 t, .string lnm] 83)).cell? ⟨w.heap.size, 0, none⟩ = some (.string nm) := by simp [World.cell?, RW]
      have d1 : (wr.alloc (.cells #[.int .i64 f, .int .i64 t, .string lnm] 83)).cell? ⟨w.heap.size, 1, none⟩ = some (.int .i64 sp) := by simp [World.cell?, RW]
      have d2 : (wr.alloc (.cells #[.int .i64 f, .int .i64 t, .string lnm] 83)).cell? ⟨w.heap.size, 2, none⟩ = some (.int .i64 st) := by simp [World.cell?, RW]
      have d3 : (wr.alloc (.cells #[.int .i64 f, .int .i64 t, .string lnm] 83)).cell? ⟨w.heap.size, 3, none⟩ = some (.slice so ss.length sc) := by simp [World.cell?, RW]
      have d4 : (wr.alloc (.cells #[.int .i64 f, .int .i64 t, .string lnm] 83)).cell? ⟨w.heap.size, 4, none⟩ = some (.slice (some ⟨lb, loff, none⟩) ls.length lc) := by simp [World.cell?, RW]
      have d5 : (wr.alloc (.cells #[.int .i64 f, .int .i64 t, .string lnm] 83)).cell? ⟨w.heap.size, 5, none⟩ = some (.slice to_ ts.length tc) := by simp [World.cell?, RW]
      have q0 : (wr.alloc (.cells #[.int .i64 f, .int .i64 t, .string lnm] 83)).cell? ⟨wr.heap.size, 0, none⟩ = some (.int .i64 f) := by go_simp
      have q1 : (wr.alloc (.cells #[.int .i64 f, .int .i64 t, .string lnm] 83)).cell? ⟨wr.heap.size, 1, none⟩ = some (.int .i64 t) := by go_simp
      obtain ⟨X, hX⟩ : ∃ X, partR ss f t = X := ⟨_, rfl⟩
      rw [hX] at HSN
      have HG2 : Hid (W3.grownBy (wr.alloc (.cells #[.int .i64 f, .int .i64 t, .string lnm] 83)) none) := grown_trans hg.out GWR
      have HO2 : Hid ((wr.alloc (.cells #[.int .i64 f, .int .i64 t, .string lnm] 83)).ownsRow W3.heap.size 44 10 v k L0) := hown.out.alloc _
      have QW := (HG2.out.block _ (Array.getElem?_eq_some_iff.1 Q3.out).1 (by simp)).trans Q3.out
      have r0 : (wr.alloc (.cells #[.int .i64 f, .int .i64 t, .string lnm] 83)).cell? ⟨Z, 0, none⟩ = some (.slice none 0 0) := by simp [World.cell?, QW]
      have r1 : (wr.alloc (.cells #[.int .i64 f, .int .i64 t, .string lnm] 83)).cell? ⟨Z, 1, none⟩ = some (.slice ao1 n cc1) := by simp [World.cell?, QW]
      have r2 : (wr.alloc (.cells #[.int .i64 f, .int .i64 t, .string lnm] 83)).cell? ⟨Z, 2, none⟩ = some (.slice ao2 n cc2) := by simp [World.cell?, QW]
      have r3 : (wr.alloc (.cells #[.int .i64 f, .int .i64 t, .string lnm] 83)).cell? ⟨Z, 3, none⟩ = some (.slice ao3 n cc3) := by simp [World.cell?, QW]
      have r4 : (wr.alloc (.cells #[.int .i64 f, .int .i64 t, .string lnm] 83)).cell? ⟨Z, 4, none⟩ = some (.slice ao4 n cc4) := by simp [World.cell?, QW]
      have r5 : (wr.alloc (.cells #[.int .i64 f, .int .i64 t, .string lnm] 83)).cell? ⟨Z, 5, none⟩ = some (.slice ao5 n cc5) := by simp [World.cell?, QW]
      have T1 := Lib.hid (S1.out.grown HG2.out)
      have T2 := Lib.hid (S2.out.grown HG2.out)
      have T3 := Lib.hid (S3.out.grown HG2.out)
      have T4 := Lib.hid (S4.out.grown HG2.out)
      have T5 := Lib.hid (S5.out.grown HG2.out)
      obtain ⟨F, rfl⟩ := Int.eq_ofNat_of_zero_le x0
      obtain ⟨T, rfl⟩ := Int.eq_ofNat_of_zero_le (by omega : 0 ≤ t)
      have HX' : Hid ((⟨knS (segL F T (streamS 4 ss)), knS (segL F T (streamS 5 ss)), knS (segL F T (streamS 1 ss)), knS (segL F T (streamS 2 ss)), knS (segL F T (streamS 3 ss)), knK (segL F T (streamS 1 ss)), knK (segL F T (streamS 2 ss)), knK (segL F T (streamS 3 ss))⟩ : Prt) = X) := by
        show _ = _
        have := hX
        unfold partR at this
        simpa only [Int.toNat_natCast] using this
      clear hX hg hown GWR RW QW d0 d1 d2 d3 d4 d5 HSA
      go_wp2_with fail
      refine (rpartOf_any (.slice none 0 0) ao1 ao2 ao3 ao4 ao5 cc1 cc2 cc3 cc4 cc5 n (streamS 1 ss) (streamS 2 ss) (streamS 3 ss) (streamS 4 ss) (streamS 5 ss) F T (by omega) (by omega) hn6 _ T1 T2 T3 T4 T5 HX').mono ?_; rintro e wx ⟨rfl, hgx⟩
      obtain ⟨y0, y1, y2, y3, y4, y5, y6, y7⟩ := X
      have HGX : Hid (W3.grownBy wx none) := grown_trans HG2.out hgx
      have HOX : Hid (wx.ownsRow W3.heap.size 44 10 v k L0) := HO2.out.kept hgx (Classical.em _)
      have HCN : Hid (∀ j u, [.int .i64 (F : Int), .int .i64 (T : Int), .int .i64 y0, .int .i64 y1, .int .i64 y2, .int .i64 y3, .int .i64 y4, .int .i64 y5, .int .i64 y6, .int .i64 y7][j]? = some u → (wx.alloc (.cells #[.int .i64 (F : Int), .int .i64 (T : Int), .int .i64 y0, .int .i64 y1, .int .i64 y2, .int .i64 y3, .int .i64 y4, .int .i64 y5, .int .i64 y6, .int .i64 y7] 44)).cell? ((⟨wx.heap.size, 0, none⟩ : Addr).add j) = some u) := cells_new wx [.int .i64 (F : Int), .int .i64 (T : Int), .int .i64 y0, .int .i64 y1, .int .i64 y2, .int .i64 y3, .int .i64 y4, .int .i64 y5, .int .i64 y6, .int .i64 y7] 44
      clear hgx c0 c1 c2 q0 q1 r0 r1 r2 r3 r4 r5
      have ji := HJI.out; have jz0 := HJ0.out; have jz1 := HJ1.out; have jz2 := HJ2.out
      have SZ := HGX.out.size
      have SZ0 := HW0.out
      go_wp2_with (first
        | (at_builtin; refine wpList_append_own _ rfl _ _ 47 rfl W3.heap.size 44 j0 (.agg #[.int .i64 0, .int .i64 0, .int .i64 0, .int .i64 0, .int .i64 0, .int .i64 0, .int .i64 0, .int .i64 0, .int .i64 0, .int .i64 0]) 10 80 Try.underlying47 ji jz0 jz1 jz2 rfl (by decide) _ _ _ rfl (HOX.out.alloc _) ⟨wx.heap.size, 0, none⟩ 1 1 [.int .i64 (F : Int), .int .i64 (T : Int), .int .i64 y0, .int .i64 y1, .int .i64 y2, .int .i64 y3, .int .i64 y4, .int .i64 y5, .int .i64 y6, .int .i64 y7] rfl rfl (HCN.out) (by intro u hu; simp only [List.mem_cons, List.not_mem_nil, or_false] at hu; rcases hu with rfl | rfl | rfl | rfl | rfl | rfl | rfl | rfl | rfl | rfl <;> rfl) (by unfold maxLen; omega) (by omega) (by simp; omega) ?_; intro v' w3' hown' hgrow' _))
      have hlt2 := HOX.out.lt
      have GN : Hid (W3.grownBy w3' none) := grown_own HGX.out hgrow' (fun g e => (hlt2 g e).1)
      have HO3 : Hid (w3'.ownsRow W3.heap.size 44 10 v' (k + 1) L1) := by
        show World.ownsRow _ _ _ _ _ _ _; rw [HSN.out]; exact hown'
      clear hown' hgrow' hlt2 SZ SZ0 ji jz0 jz1 jz2
      go_wp2_with fail
      go_roundw
      case rel => exact ⟨k + 1, _, rfl, by go_num, by omega, GN.out, (by show World.ownsRow _ _ _ _ _ _ _; rw [HL1.out]; exact HO3.out)⟩
      case measure => simp [intOf]; omega
    · obtain rfl : k = ls.length := by omega
      have HOF : Hid (wr.ownsRow w.heap.size 44 10 v ls.length (partsVs (partR ss) ls)) := by
        have q := hown.out
        rw [List.take_length] at q
        exact parts_low q (by have := HW0.out; omega)
      have HGF : Hid (w.grownBy wr none) := grown_trans G3.out hg.out
      clear hown hg
      go_wp2_with fail
      go_ret2
      exact ⟨⟨_, rfl, HOF.out⟩, HGF.out⟩
end
end Go.Proofs.Ytmfnphknoclhfaa
