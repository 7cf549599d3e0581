/- The contracts of appendValues and appendShares. -/
import Derived.Test.YtmfnphknoclhfaaEStrP
import Derived.Test.YtmfnphknoclhfaaTRow
import Derived.Test.YtmfnphknoclhfaaTRChk
import Derived.Deep.OwnRows
import Derived.Maps.AppendAt
namespace Go.Proofs.Ytmfnphknoclhfaa
open Go.RowKit

def ints (l : List Int) : List Value := l.map (Value.int .i64)
theorem ints_snoc (l : List Int) (x : Int) : ints (l ++ [x]) = ints l ++ [.int .i64 x] := by simp [ints]
theorem ints_app (l m : List Int) : ints (l ++ m) = ints l ++ ints m := by simp [ints]
theorem ints_len (l : List Int) : (ints l).length = l.length := by simp [ints]
/-- A row that grew, again. -/
theorem grown_row {w wr w1 : World} {o : Obj} {row r1 : Option Nat} (h : w.grownBy wr row) (g : (wr.alloc o).grownBy w1 r1) (hr : ∀ k, r1 = some k → row = some k ∨ w.heap.size ≤ k) : w.grownBy w1 row :=
  ⟨g.os.trans h.os, g.tape.trans h.tape, g.output.trans h.output, by have := g.size; have := h.size; simp at *; omega, fun k hk hne => by
    have hs := h.size
    rw [g.block k (by simp; omega) (fun e => by
      rcases hr k e.symm with h1 | h1
      · exact hne h1.symm
      · omega), Below.heap_alloc _ _ _ (by omega)]
    exact h.block k hk hne⟩
theorem grown_none {w wr : World} {row : Option Nat} (h : w.grownBy wr none) : w.grownBy wr row :=
  ⟨h.os, h.tape, h.output, h.size, fun k hk _ => h.block k hk (by simp)⟩
theorem grown_then {w w1 w2 : World} {row : Option Nat} (h : w.grownBy w1 row) (g : w1.grownBy w2 none) : w.grownBy w2 row :=
  ⟨g.os.trans h.os, g.tape.trans h.tape, g.output.trans h.output, Nat.le_trans h.size g.size, fun k hk hne => (g.block k (Nat.lt_of_lt_of_le hk h.size) (by simp)).trans (h.block k hk hne)⟩

/-- What was appended so far: the list, and where it lies. -/
structure AppS (w : World) (row : Option Nat) (base : Nat) (wr : World) (v : Value) (l : List Int) : Prop where
  own : wr.ownsRow base 3 1 v l.length (ints l)
  g : w.grownBy wr row
  at_ : ∀ k, v.ownBlock = some k → row = some k ∨ w.heap.size ≤ k
theorem AppS.grown {w : World} {row : Option Nat} {base : Nat} {wr w1 : World} {v : Value} {l : List Int} (h : AppS w row base wr v l) (g : wr.grownBy w1 none) : AppS w row base w1 v l :=
  ⟨h.own.kept g (Classical.em _), grown_then h.g g, h.at_⟩
theorem AppS.more {w : World} {row : Option Nat} {base : Nat} {wr w1 : World} {v v' : Value} {l m : List Int} {o : Obj} {n : Nat} (h : AppS w row base wr v l) (hn : n = (l ++ m).length) (own' : w1.ownsRow base 3 1 v' n (ints l ++ ints m)) (g : (wr.alloc o).grownBy w1 v.ownBlock) (hat : v'.ownBlock = v.ownBlock ∨ v'.ownBlock = some (wr.alloc o).heap.size) : AppS w row base w1 v' (l ++ m) := by
  refine ⟨by rw [← hn, ints_app]; exact own', grown_row h.g g h.at_, fun k hk => ?_⟩
  rcases hat with e | e
  · rw [e] at hk; exact h.at_ k hk
  · rw [e] at hk
    injection hk with hk
    have := h.g.size
    simp at hk
    exact .inr (by omega)

set_option maxHeartbeats 1600000 in
theorem appendValues_any (p q : Smp) (h : TimesOk p q) (x : Int) {base : Nat} {v : Value} {l : List Int} (hl : (l.length : Int) + (q.t - p.t) ≤ 1000000) (w : World) (hb : base ≤ w.heap.size) (ho : w.ownsRow base 3 1 v l.length (ints l)) :
    Calls Try.prog 172 #[stV p q, v, .int .i64 x] w fun e w' => ∃ v', e = .returned v' ∧ AppS w v.ownBlock base w' v' (l ++ List.replicate (q.t - p.t).toNat x) := by
  obtain ⟨i0, hi, hz0, hz1, hz2⟩ := info_parts info_int
  have HI := Lib.hid hi; have HZ0 := Lib.hid hz0; have HZ1 := Lib.hid hz1; have HZ2 := Lib.hid hz2
  have HT := Lib.hid h
  obtain ⟨h0, h1, h2⟩ := h
  obtain ⟨S, hS⟩ : ∃ S : Nat, q.t - p.t = S := ⟨(q.t - p.t).toNat, by omega⟩
  have e1 : (q.t - p.t).toNat = S := by omega
  rw [e1]
  have HSN := Lib.hid hS
  have hlS : l.length + S ≤ 1000000 := by omega
  have HO := Lib.hid ho; have HBS := Lib.hid hb
  obtain ⟨pt, px, py, pz, pp, pq, ps⟩ := p
  obtain ⟨qt, qx, qy, qz, qp, qq, qs⟩ := q
  simp only at HSN h0 h1 h2
  have hS1 : (S : Int) ≤ 1000000 := by omega
  clear hi hz0 hz1 hz2 hS e1 ho hb hl h0 h1 h2
  go_enter Try.func172, Try.ntmps172
  go_wp2_with fail
  refine (seconds_is ⟨pt, px, py, pz, pp, pq, ps⟩ ⟨qt, qx, qy, qz, qp, qq, qs⟩ HT.out _).mono ?_; rintro e w1 ⟨rfl, hg1⟩
  have HG1 : Hid (w.grownBy w1 none) := grown_trans (World.grownBy_alloc _ _ _) hg1
  have hsn := HSN.out
  simp only
  rw [hsn]
  have HA0 : Hid (AppS w v.ownBlock base w1 v l) := ⟨HO.out.kept HG1.out (Classical.em _), grown_none HG1.out, fun k hk => .inl hk⟩
  have HBW : Hid (base ≤ w1.heap.size) := Nat.le_trans HBS.out HG1.out.size
  clear hg1 hsn
  go_wp2_with fail
  go_loopw [1, 9] (fun lv iv wr => ∃ (k : Nat) (u : Value), u = lv ∧ iv = .int .i64 k ∧ k ≤ S ∧ Hid (AppS w v.ownBlock base wr u (l ++ List.replicate k x)) ∧ Hid (base ≤ wr.heap.size))
    (fun _ iv _ => S - (intOf iv).toNat)
  case atStart => exact ⟨0, v, rfl, rfl, Nat.zero_le _, by show AppS _ _ _ _ _ _; simpa using HA0.out, HBW.out⟩
  case round =>
    obtain ⟨k, u, rfl, rfl, hk, hA, hbw⟩ := hrel
    by_cases hlt : k < S
    · have hlen : (l ++ List.replicate k x).length = l.length + k := by simp
      have hi := HI.out; have hz0 := HZ0.out; have hz1 := HZ1.out; have hz2 := HZ2.out
      have OWN := Lib.hid hA.out.own
      have hlk : (l ++ List.replicate k x).length ≤ 1000000 := by omega
      have HLEN := Lib.hid hlen
      have hki : (k : Int) < (S : Int) := by omega
      clear hlen
      generalize hM : l ++ List.replicate k x = M at *
      have HM := Lib.hid hM
      clear hM
      go_wp2_with (at_builtin; refine wpList_append_own_at _ rfl _ _ 22 rfl base 3 i0 (.int .i64 0) 1 8 Try.underlying22 hi hz0 hz1 hz2 rfl (by decide) _ _ _ rfl (OWN.out.alloc _) ⟨wr.heap.size, 0, none⟩ 1 1 [.int .i64 x] rfl rfl (cell_one_new wr (.int .i64 x) 3) (by intro u hu; simp at hu; subst hu; rfl) (by unfold maxLen; omega) (by omega) (by have := hbw.out; simp; omega) ?_; intro v' w2 hown' hgrow' _ hat')
      have HA2 : Hid (AppS w v.ownBlock base w2 v' (l ++ List.replicate (k + 1) x)) := by
        have q := hA.out.more (m := [x]) (by simp) hown' hgrow' hat'
        rw [← HM.out] at q
        show AppS _ _ _ _ _ _
        rw [List.replicate_succ', ← List.append_assoc]
        exact q
      have hb2 : Hid (base ≤ w2.heap.size) := by show _ ≤ _; have := hgrow'.size; have := hbw.out; simp at *; omega
      clear hown' hgrow' hat' hi hz0 hz1 hz2 OWN
      go_wp2_with fail
      go_roundw
      case rel => exact ⟨k + 1, _, rfl, by go_num, by omega, HA2.out, hb2.out⟩
      case measure => simp [intOf]; omega
    · have hks : k = S := by omega
      subst hks
      have HA := Lib.hid hA.out
      clear hA
      go_wp2_with fail
      go_ret
      exact ⟨_, rfl, HA.out⟩

/-- The shares of the first seconds. -/
def shareN (A s : Int) (k : Nat) : Int := upto A s ((k : Int) + 1) - upto A s (k : Int)
def shares (A s : Int) (n : Nat) : List Int := (List.range n).map (shareN A s)
theorem shares_succ (A s : Int) (n : Nat) : shares A s (n + 1) = shares A s n ++ [shareN A s n] := by simp [shares, List.range_succ]
theorem shares_len (A s : Int) (n : Nat) : (shares A s n).length = n := by simp [shares]

set_option maxHeartbeats 1600000 in
theorem appendShares_any (p q : Smp) (h : TimesOk p q) (A : Int) (a0 : 0 ≤ A) (a1 : A ≤ 300000000) {base : Nat} {v : Value} {l : List Int} (hl : (l.length : Int) + (q.t - p.t) ≤ 1000000) (w : World) (hb : base ≤ w.heap.size) (ho : w.ownsRow base 3 1 v l.length (ints l)) :
    Calls Try.prog 171 #[stV p q, v, .int .i64 A] w fun e w' => ∃ v', e = .returned v' ∧ AppS w v.ownBlock base w' v' (l ++ shares A (q.t - p.t) (q.t - p.t).toNat) := by
  obtain ⟨i0, hi, hz0, hz1, hz2⟩ := info_parts info_int
  have HI := Lib.hid hi; have HZ0 := Lib.hid hz0; have HZ1 := Lib.hid hz1; have HZ2 := Lib.hid hz2
  have HT := Lib.hid h
  obtain ⟨h0, h1, h2⟩ := h
  obtain ⟨S, hS⟩ : ∃ S : Nat, q.t - p.t = S := ⟨(q.t - p.t).toNat, by omega⟩
  have e1 : (q.t - p.t).toNat = S := by omega
  rw [e1]
  have HSN := Lib.hid hS
  have hlS : l.length + S ≤ 1000000 := by omega
  have HO := Lib.hid ho; have HBS := Lib.hid hb
  obtain ⟨pt, px, py, pz, pp, pq, ps⟩ := p
  obtain ⟨qt, qx, qy, qz, qp, qq, qs⟩ := q
  simp only at HSN h0 h1 h2 hS
  simp only [hS]
  have hS1 : (S : Int) ≤ 1000000 := by omega
  clear hi hz0 hz1 hz2 hS e1 ho hb hl h0 h1 h2
  go_enter Try.func171, Try.ntmps171
  go_wp2_with fail
  refine (seconds_is ⟨pt, px, py, pz, pp, pq, ps⟩ ⟨qt, qx, qy, qz, qp, qq, qs⟩ HT.out _).mono ?_; rintro e w1 ⟨rfl, hg1⟩
  have HG1 : Hid (w.grownBy w1 none) := grown_trans (World.grownBy_alloc _ _ _) hg1
  have HBX : Hid (w1.heap[w.heap.size]? = some (.cells #[.int .i64 pt, .int .i64 px, .int .i64 py, .int .i64 pz, .int .i64 pp, .int .i64 pq, .int .i64 ps, .int .i64 qt, .int .i64 qx, .int .i64 qy, .int .i64 qz, .int .i64 qp, .int .i64 qq, .int .i64 qs] 188 (0, 0))) := by
    show _ = _
    rw [hg1.block _ (by simp) (by simp)]; exact heap_alloc_new w _
  have hsn := HSN.out
  simp only
  rw [hsn]
  have HA0 : Hid (AppS w v.ownBlock base w1 v l) := ⟨HO.out.kept HG1.out (Classical.em _), grown_none HG1.out, fun k hk => .inl hk⟩
  have HBW : Hid (base ≤ w1.heap.size) := Nat.le_trans HBS.out HG1.out.size
  have HNB : Hid (v.ownBlock ≠ some w.heap.size) := fun h => by have := (HO.out.lt _ h).2; omega
  clear hg1 hsn
  go_wp2_with fail
  go_loopw [1, 10] (fun lv iv wr => ∃ (k : Nat) (u : Value), u = lv ∧ iv = .int .i64 k ∧ k ≤ S ∧ Hid (AppS w v.ownBlock base wr u (l ++ shares A S k)) ∧ Hid (base ≤ wr.heap.size) ∧ Hid (u.ownBlock ≠ some w.heap.size) ∧ Hid (wr.heap[w.heap.size]? = some (.cells #[.int .i64 pt, .int .i64 px, .int .i64 py, .int .i64 pz, .int .i64 pp, .int .i64 pq, .int .i64 ps, .int .i64 qt, .int .i64 qx, .int .i64 qy, .int .i64 qz, .int .i64 qp, .int .i64 qq, .int .i64 qs] 188 (0, 0))))
    (fun _ iv _ => S - (intOf iv).toNat)
  case atStart => exact ⟨0, v, rfl, rfl, Nat.zero_le _, by show AppS _ _ _ _ _ _; simpa [shares] using HA0.out, HBW.out, HNB.out, HBX.out⟩
  case round =>
    obtain ⟨k, u, rfl, rfl, hk, hA, hbw, hnb, hbx⟩ := hrel
    by_cases hlt : k < S
    · have hlen : (l ++ shares A S k).length = l.length + k := by simp [shares_len]
      have hi := HI.out; have hz0 := HZ0.out; have hz1 := HZ1.out; have hz2 := HZ2.out
      have hlk : (l ++ shares A S k).length ≤ 1000000 := by omega
      have hki : (k : Int) < (S : Int) := by omega
      obtain ⟨z, hz⟩ : ∃ z, shareN A S k = z := ⟨_, rfl⟩
      have HSH : Hid (upto A (qt - pt) ((k : Int) + 1) - upto A (qt - pt) (k : Int) = z) := by show _ = _; rw [HSN.out]; exact hz
      have HZ := Lib.hid hz
      have hb := hbx.out
      have d0 : wr.cell? ⟨w.heap.size, 0, none⟩ = some (.int .i64 pt) := by simp [World.cell?, hb]
      have d1 : wr.cell? ⟨w.heap.size, 1, none⟩ = some (.int .i64 px) := by simp [World.cell?, hb]
      have d2 : wr.cell? ⟨w.heap.size, 2, none⟩ = some (.int .i64 py) := by simp [World.cell?, hb]
      have d3 : wr.cell? ⟨w.heap.size, 3, none⟩ = some (.int .i64 pz) := by simp [World.cell?, hb]
      have d4 : wr.cell? ⟨w.heap.size, 4, none⟩ = some (.int .i64 pp) := by simp [World.cell?, hb]
      have d5 : wr.cell? ⟨w.heap.size, 5, none⟩ = some (.int .i64 pq) := by simp [World.cell?, hb]
      have d6 : wr.cell? ⟨w.heap.size, 6, none⟩ = some (.int .i64 ps) := by simp [World.cell?, hb]
      have e0 : wr.cell? ⟨w.heap.size, 7, none⟩ = some (.int .i64 qt) := by simp [World.cell?, hb]
      have e1 : wr.cell? ⟨w.heap.size, 8, none⟩ = some (.int .i64 qx) := by simp [World.cell?, hb]
      have e2 : wr.cell? ⟨w.heap.size, 9, none⟩ = some (.int .i64 qy) := by simp [World.cell?, hb]
      have e3 : wr.cell? ⟨w.heap.size, 10, none⟩ = some (.int .i64 qz) := by simp [World.cell?, hb]
      have e4 : wr.cell? ⟨w.heap.size, 11, none⟩ = some (.int .i64 qp) := by simp [World.cell?, hb]
      have e5 : wr.cell? ⟨w.heap.size, 12, none⟩ = some (.int .i64 qq) := by simp [World.cell?, hb]
      have e6 : wr.cell? ⟨w.heap.size, 13, none⟩ = some (.int .i64 qs) := by simp [World.cell?, hb]
      clear hz hlen hb
      go_wp2_with fail
      refine (share_is ⟨pt, px, py, pz, pp, pq, ps⟩ ⟨qt, qx, qy, qz, qp, qq, qs⟩ HT.out A k ((k : Int) + 1) a0 a1 (by omega) (by omega) (by omega) (by omega) _ HSH).mono ?_; rintro e w2 ⟨rfl, hg2⟩
      have HA1 := Lib.hid (hA.out.grown hg2)
      have OWN := Lib.hid HA1.out.own
      have hb1 : Hid (base ≤ w2.heap.size) := Nat.le_trans hbw.out hg2.size
      have hbx1 : Hid (w2.heap[w.heap.size]? = _) := (hg2.block _ (Array.getElem?_eq_some_iff.1 hbx.out).1 (by simp)).trans hbx.out
      clear d0 d1 d2 d3 d4 d5 d6 e0 e1 e2 e3 e4 e5 e6 hg2 hA hbw hbx
      generalize hM : l ++ shares A S k = M at *
      have HM := Lib.hid hM
      clear hM
      go_wp2_with (at_builtin; refine wpList_append_own_at _ rfl _ _ 22 rfl base 3 i0 (.int .i64 0) 1 8 Try.underlying22 hi hz0 hz1 hz2 rfl (by decide) _ _ _ rfl (OWN.out.alloc _) ⟨w2.heap.size, 0, none⟩ 1 1 [.int .i64 z] rfl rfl (cell_one_new w2 (.int .i64 z) 3) (by intro u hu; simp at hu; subst hu; rfl) (by unfold maxLen; omega) (by omega) (by have := hb1.out; simp; omega) ?_; intro v' w3 hown' hgrow' _ hat')
      have HA2 : Hid (AppS w v.ownBlock base w3 v' (l ++ shares A S (k + 1))) := by
        have q := HA1.out.more (m := [z]) (by simp) hown' hgrow' hat'
        rw [← HM.out] at q
        show AppS _ _ _ _ _ _
        rw [shares_succ, HZ.out, ← List.append_assoc]
        exact q
      have hlw : w.heap.size < w2.heap.size := (Array.getElem?_eq_some_iff.1 hbx1.out).1
      have hb2 : Hid (base ≤ w3.heap.size) := by show _ ≤ _; have := hgrow'.size; have := hb1.out; simp at *; omega
      have hnb2 : Hid (v'.ownBlock ≠ some w.heap.size) := fun h => by
        rcases hat' with q | q
        · rw [q] at h; exact hnb.out h
        · rw [q] at h; injection h with h; simp at h; omega
      have hbx2 : Hid (w3.heap[w.heap.size]? = some (.cells #[.int .i64 pt, .int .i64 px, .int .i64 py, .int .i64 pz, .int .i64 pp, .int .i64 pq, .int .i64 ps, .int .i64 qt, .int .i64 qx, .int .i64 qy, .int .i64 qz, .int .i64 qp, .int .i64 qq, .int .i64 qs] 188 (0, 0))) := by
        show _ = _
        rw [hgrow'.block _ (by simp; omega) (fun h => hnb.out h.symm), Below.heap_alloc _ _ _ (by omega)]; exact hbx1.out
      clear hown' hgrow' hat' hi hz0 hz1 hz2 OWN HA1 hb1 hbx1 hnb
      go_wp2_with fail
      go_roundw
      case rel => exact ⟨k + 1, _, rfl, by go_num, by omega, HA2.out, hb2.out, hnb2.out, hbx2.out⟩
      case measure => simp [intOf]; omega
    · have hks : k = S := by omega
      subst hks
      have HA := Lib.hid hA.out
      clear hA
      go_wp2_with fail
      go_ret
      exact ⟨_, rfl, HA.out⟩

end Go.Proofs.Ytmfnphknoclhfaa
