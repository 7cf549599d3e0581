/- The sizes at which one curve beats another, of both sides. -/
import Derived.Test.YtfeefijaahjheaaECrvB
namespace Go.Proofs.Ytfeefijaahjheaa
open Go.RowKit
set_option linter.unusedSimpArgs false
set_option linter.unusedVariables false

/-- A world that has grown. -/
structure GrW (W : World) where
  V : World
  h : W.grownBy V none
instance (W : World) : Inhabited (GrW W) := ⟨⟨W, grown_refl W none⟩⟩
theorem wp_region_quiet_gr {P : Program} {id : Nat} {Q : Exit → Go.Act → World → Prop} {a : Go.Act} {W : World} {l : List Oper} (hm : P.follows .mixedOrders = true) (hB : Region.lexB .any l.toArray = true)
    (h : wpQuiet P l.toArray (fun w' => ∃ p : GrW W, w' = p.V) (fun a' => ∀ w', (∃ p : GrW W, w' = p.V) → Q .normal a' w') l a) : (Code.region id l.toArray true).wp P Q a W :=
  wp_region_quiet (C := fun w' => ∃ p : GrW W, w' = p.V) hm hB ⟨⟨W.drewN 1, grown_drewN W none 1⟩, rfl⟩ (by simpa using h)
theorem GrW.calls {P : Program} {f : FuncId} {args : Array Value} {W : World} {p : GrW W} {v : Value} (h : Calls P f args p.V fun e w' => e = .returned v ∧ p.V.grownBy w' none) : Calls P f args p.V fun e w' => e = .returned v ∧ ∃ q : GrW W, w' = q.V :=
  h.mono fun _ w' ⟨he, hg⟩ => ⟨he, ⟨w', grown_trans p.h hg⟩, rfl⟩
theorem less_is (x y : BestV) (w : World) {q : Bool} (hq : Hid (betB y.b x.b = q)) :
    Calls Try.prog 66 #[.agg #[.int .i64 x.sz, .int .i64 x.b.sum, .int .i64 x.b.at_, .bool x.b.found], .agg #[.int .i64 y.sz, .int .i64 y.b.sum, .int .i64 y.b.at_, .bool y.b.found]] w fun e w' => e = .returned (.bool q) ∧ w.grownBy w' none := by
  obtain ⟨xs, xb, xa, xf⟩ := x
  obtain ⟨ys, yb, ya, yf⟩ := y
  have hv := hq.out
  unfold betB at hv
  simp only at hv ⊢
  have G := Lib.hid (grown_trans (grown_al w (.cells #[.int .i64 xs, .int .i64 xb, .int .i64 xa, .bool xf] 24)) (grown_al _ (.cells #[.int .i64 ys, .int .i64 yb, .int .i64 ya, .bool yf] 24)))
  clear hq
  subst hv
  cases yf
  · go_enter Try.func66, Try.ntmps66
    go_wp2_with fail
    go_ret
    exact ⟨by simp, G.out⟩
  · cases xf
    · go_enter Try.func66, Try.ntmps66
      go_wp2_with fail
      go_ret
      exact ⟨by simp, G.out⟩
    · go_enter Try.func66, Try.ntmps66
      go_wp2_with fail
      go_ret
      exact ⟨by simp, G.out⟩

set_option maxRecDepth 100000 in
set_option maxHeartbeats 1600000 in
theorem bestOf_is (ao : Option Addr) (cap : Nat) (L : List BestV) (hl : L.length ≤ 20000) (hp : L.Pairwise fun x y => x.sz < y.sz) (s : Int) (w : World) (hs : RowsAt bestCs 4 w ao L) {b : BSt} (hb : Hid (bOf L s = b)) :
    Calls Try.prog 67 #[.slice ao L.length cap, .int .i64 s] w fun e w' => e = .returned (.agg #[.int .i64 s, .int .i64 b.sum, .int .i64 b.at_, .bool b.found]) ∧ w.grownBy w' none := by
  have HS := Lib.hid hs; have HP := Lib.hid hp
  clear hs hp
  go_enter Try.func67, Try.ntmps67
  go_wp2_with fail
  go_loopw [9] (fun iv wr => ∃ k : Nat, k ≤ L.length ∧ iv = .int .i64 k ∧ Hid (w.grownBy wr none) ∧ Hid (wr.heap[w.heap.size]? = some (.cells #[.int .i64 0, .int .i64 0, .int .i64 0, .bool false] 24 (0, 0))) ∧ Hid (∀ j (hj : j < L.length), j < k → L[j].sz ≠ s))
    (fun iv _ => L.length - (intOf iv).toNat)
  case atStart => exact ⟨0, Nat.zero_le _, rfl, grown_al _ _, heap_alloc_new _ _, fun j _ hj => absurd hj (Nat.not_lt_zero _)⟩
  case round =>
    obtain ⟨k, hk, rfl, hg, hz, hf⟩ := hrel
    by_cases hlt : k < L.length
    · obtain ⟨g, o, rfl, hc⟩ := bst_at HS.out (by omega)
      obtain ⟨c0, c1, c2, c3⟩ := hc k hlt
      replace c0 := grown_cell hg.out c0; replace c1 := grown_cell hg.out c1; replace c2 := grown_cell hg.out c2; replace c3 := grown_cell hg.out c3
      by_cases he : L[k].sz = s
      · have HB : Hid (L[k].b = b) := by
          show _ = _; rw [← hb.out, ← he]; exact (bOf_hit HP.out hlt).symm
        clear hf hc
        have z0 : wr.frozen? ⟨w.heap.size, 0, none⟩ = false := mblock_free hz.out
        have z1 : wr.frozen? ⟨w.heap.size, 1, none⟩ = false := mblock_free hz.out
        have z2 : wr.frozen? ⟨w.heap.size, 2, none⟩ = false := mblock_free hz.out
        have z3 : wr.frozen? ⟨w.heap.size, 3, none⟩ = false := mblock_free hz.out
        have SZ : w.heap.size < wr.heap.size := (Array.getElem?_eq_some_iff.1 hz.out).1
        have y0 : wr.cell? ⟨w.heap.size, 0, none⟩ = some (.int .i64 0) := mblock_cell hz.out 0 _ rfl; have y1 : wr.cell? ⟨w.heap.size, 1, none⟩ = some (.int .i64 0) := mblock_cell hz.out 1 _ rfl; have y2 : wr.cell? ⟨w.heap.size, 2, none⟩ = some (.int .i64 0) := mblock_cell hz.out 2 _ rfl; have y3 : wr.cell? ⟨w.heap.size, 3, none⟩ = some (.bool false) := mblock_cell hz.out 3 _ rfl
        generalize L[k] = x at *
        obtain ⟨sz, bs, ba, bf⟩ := x
        simp only at c0 c1 c2 c3 he HB
        have HG4 : Hid (w.grownBy ((((wr.setCell ⟨w.heap.size, 0, none⟩ (.int .i64 s)).setCell ⟨w.heap.size, 1, none⟩ (.int .i64 bs)).setCell ⟨w.heap.size, 2, none⟩ (.int .i64 ba)).setCell ⟨w.heap.size, 3, none⟩ (.bool bf)) none) :=
          mgrown_set (mgrown_set (mgrown_set (mgrown_set hg.out (Nat.le_refl _) _ _) (Nat.le_refl _) _ _) (Nat.le_refl _) _ _) (Nat.le_refl _) _ _
        have hb4 : (((((wr.setCell ⟨w.heap.size, 0, none⟩ (.int .i64 s)).setCell ⟨w.heap.size, 1, none⟩ (.int .i64 bs)).setCell ⟨w.heap.size, 2, none⟩ (.int .i64 ba)).setCell ⟨w.heap.size, 3, none⟩ (.bool bf))).heap[w.heap.size]? = some (.cells #[.int .i64 s, .int .i64 bs, .int .i64 ba, .bool bf] 24 (0, 0)) := by
          have q := mblock_set (k := 3) (mblock_set (k := 2) (mblock_set (k := 1) (mblock_set (k := 0) hz.out (.int .i64 s)) (.int .i64 bs)) (.int .i64 ba)) (.bool bf)
          simpa using q
        clear hg
        go_wp2_with fail
        generalize (((wr.setCell ⟨w.heap.size, 0, none⟩ (.int .i64 s)).setCell ⟨w.heap.size, 1, none⟩ (.int .i64 bs)).setCell ⟨w.heap.size, 2, none⟩ (.int .i64 ba)).setCell ⟨w.heap.size, 3, none⟩ (.bool bf) = W4 at *
        have HG5 : Hid (w.grownBy (W4.alloc (.cells #[.int .i64 s, .int .i64 bs, .int .i64 ba, .bool bf] 24)) none) := grown_trans HG4.out (grown_al _ _)
        have hb5 := mblock_at hb4 (grown_al W4 (.cells #[.int .i64 s, .int .i64 bs, .int .i64 ba, .bool bf] 24)) (by simp)
        generalize W4.alloc (.cells #[.int .i64 s, .int .i64 bs, .int .i64 ba, .bool bf] 24) = W5 at *
        have r0 : W5.cell? ⟨w.heap.size, 0, none⟩ = some (.int .i64 s) := mblock_cell hb5 0 _ rfl
        have r1 : W5.cell? ⟨w.heap.size, 1, none⟩ = some (.int .i64 bs) := mblock_cell hb5 1 _ rfl
        have r2 : W5.cell? ⟨w.heap.size, 2, none⟩ = some (.int .i64 ba) := mblock_cell hb5 2 _ rfl
        have r3 : W5.cell? ⟨w.heap.size, 3, none⟩ = some (.bool bf) := mblock_cell hb5 3 _ rfl
        try simp only [Exit.inBlock, Exit.then]
        refine bodyPost_ret (v := .agg #[.int .i64 s, .int .i64 bs, .int .i64 ba, .bool bf]) (by simp [results, Try.results67, go_sem, r0, r1, r2, r3]) rfl ⟨by rw [← HB.out], HG5.out⟩
      · have HF1 : Hid (∀ j (hj : j < L.length), j < k + 1 → L[j].sz ≠ s) := fun j hj q => by
          rcases Nat.lt_or_ge j k with q2 | q2
          · exact hf.out j hj q2
          · have : j = k := by omega
            subst this; exact he
        have HGN := Lib.hid (grown_trans hg.out (grown_al wr (.cells (bestCs L[k]).toArray 24)))
        have HZN : Hid ((wr.alloc (.cells (bestCs L[k]).toArray 24)).heap[w.heap.size]? = some (.cells #[.int .i64 0, .int .i64 0, .int .i64 0, .bool false] 24 (0, 0))) := mblock_at hz.out (grown_al _ _) (by simp)
        generalize L[k] = x at *
        obtain ⟨sz, bs, ba, bf⟩ := x
        simp only [bestCs] at c0 c1 c2 c3 he HGN HZN
        have hb2 : (sz == s) = false := by rw [beq_eq_false_iff_ne]; exact he
        clear hf hc hg hz he
        go_wp2_with fail
        go_roundw
        case rel => exact ⟨k + 1, by omega, by go_num, HGN.out, HZN.out, HF1.out⟩
        case measure => simp [intOf]; omega
    · have HB : Hid (b = ⟨0, 0, false⟩) := by
        show _ = _; rw [← hb.out]
        exact bOf_miss fun x hx => by
          obtain ⟨i, hi, rfl⟩ := List.mem_iff_getElem.1 hx
          exact hf.out i hi (by omega)
      clear hf
      have z0 : wr.frozen? ⟨w.heap.size, 0, none⟩ = false := mblock_free hz.out
      have z1 : wr.frozen? ⟨w.heap.size, 1, none⟩ = false := mblock_free hz.out
      have z2 : wr.frozen? ⟨w.heap.size, 2, none⟩ = false := mblock_free hz.out
      have z3 : wr.frozen? ⟨w.heap.size, 3, none⟩ = false := mblock_free hz.out
      have SZ : w.heap.size < wr.heap.size := (Array.getElem?_eq_some_iff.1 hz.out).1
      have y0 : wr.cell? ⟨w.heap.size, 0, none⟩ = some (.int .i64 0) := mblock_cell hz.out 0 _ rfl; have y1 : wr.cell? ⟨w.heap.size, 1, none⟩ = some (.int .i64 0) := mblock_cell hz.out 1 _ rfl; have y2 : wr.cell? ⟨w.heap.size, 2, none⟩ = some (.int .i64 0) := mblock_cell hz.out 2 _ rfl; have y3 : wr.cell? ⟨w.heap.size, 3, none⟩ = some (.bool false) := mblock_cell hz.out 3 _ rfl
      have HG4 : Hid (w.grownBy ((((wr.setCell ⟨w.heap.size, 0, none⟩ (.int .i64 s)).setCell ⟨w.heap.size, 1, none⟩ (.int .i64 0)).setCell ⟨w.heap.size, 2, none⟩ (.int .i64 0)).setCell ⟨w.heap.size, 3, none⟩ (.bool false)) none) :=
        mgrown_set (mgrown_set (mgrown_set (mgrown_set hg.out (Nat.le_refl _) _ _) (Nat.le_refl _) _ _) (Nat.le_refl _) _ _) (Nat.le_refl _) _ _
      have hb4 : (((((wr.setCell ⟨w.heap.size, 0, none⟩ (.int .i64 s)).setCell ⟨w.heap.size, 1, none⟩ (.int .i64 0)).setCell ⟨w.heap.size, 2, none⟩ (.int .i64 0)).setCell ⟨w.heap.size, 3, none⟩ (.bool false))).heap[w.heap.size]? = some (.cells #[.int .i64 s, .int .i64 0, .int .i64 0, .bool false] 24 (0, 0)) := by
        have q := mblock_set (k := 3) (mblock_set (k := 2) (mblock_set (k := 1) (mblock_set (k := 0) hz.out (.int .i64 s)) (.int .i64 0)) (.int .i64 0)) (.bool false)
        simpa using q
      clear hg
      go_wp2_with fail
      generalize (((wr.setCell ⟨w.heap.size, 0, none⟩ (.int .i64 s)).setCell ⟨w.heap.size, 1, none⟩ (.int .i64 0)).setCell ⟨w.heap.size, 2, none⟩ (.int .i64 0)).setCell ⟨w.heap.size, 3, none⟩ (.bool false) = W5 at *
      have r0 : W5.cell? ⟨w.heap.size, 0, none⟩ = some (.int .i64 s) := mblock_cell hb4 0 _ rfl
      have r1 : W5.cell? ⟨w.heap.size, 1, none⟩ = some (.int .i64 0) := mblock_cell hb4 1 _ rfl
      have r2 : W5.cell? ⟨w.heap.size, 2, none⟩ = some (.int .i64 0) := mblock_cell hb4 2 _ rfl
      have r3 : W5.cell? ⟨w.heap.size, 3, none⟩ = some (.bool false) := mblock_cell hb4 3 _ rfl
      try simp only [Exit.inBlock, Exit.then]
      refine bodyPost_ret (v := .agg #[.int .i64 s, .int .i64 0, .int .i64 0, .bool false]) (by simp [results, Try.results67, go_sem, r0, r1, r2, r3]) rfl ⟨by rw [HB.out], HG4.out⟩

set_option maxRecDepth 100000 in
set_option maxHeartbeats 3200000 in
theorem beats_is (ao bo : Option Addr) (ca cb : Nat) (a b : List BestV) (ha : (a.length : Int) ≤ 4398046511104) (hb : (b.length : Int) ≤ 4398046511104) (w : World) (hs : RowsAt bestCs 4 w ao a) (ht : RowsAt bestCs 4 w bo b) {R : List Int} {E : Int} (hE : Hid (btsOut a b = (R, E))) :
    Calls Try.prog 29 #[.slice ao a.length ca, .slice bo b.length cb] w fun e w' => (∃ v, e = .returned (.tuple #[v, .int .i64 E]) ∧ w'.ownsRow w.heap.size 3 1 v R.length (R.flatMap intCs)) ∧ w.grownBy w' none := by
  have HS := Lib.hid hs; have HT := Lib.hid ht
  have hv := hE.out
  unfold btsOut at hv
  obtain ⟨x, hx⟩ : ∃ x, twoE a b = x := ⟨_, rfl⟩
  rw [hx] at hv
  have HX := Lib.hid hx
  clear hs ht hE
  by_cases h0 : x = 0
  · rw [if_pos h0] at hv
    subst h0
    simp only [Prod.mk.injEq] at hv
    obtain ⟨rfl, rfl⟩ := hv
    obtain ⟨ca1, cb1⟩ := two_in hx
    have ha2 : a.length ≤ 20000 := by have := ca1.len; omega
    have hb2 : b.length ≤ 20000 := by have := cb1.len; omega
    have HPB := Lib.hid cb1.pw
    obtain ⟨j0, ji, jz0, jz1, jz2⟩ := info_parts mx_info_int
    clear hx ca1 cb1
    go_enter Try.func29, Try.ntmps29
    go_wp2_with fail
    refine (checkBoth_is ao bo ca cb a b ha hb w HS.out HT.out HX).mono ?_; rintro e w1 ⟨rfl, hg1⟩
    have HG1 := Lib.hid hg1
    clear hg1
    go_wp2_with fail
    go_loopw [7, 18] (fun ov iv wr => ∃ (k : Nat) (v : Value), k ≤ a.length ∧ v = ov ∧ iv = .int .i64 k ∧ Hid (w.grownBy wr none) ∧ Hid (wr.ownsRow w.heap.size 3 1 v (btsL (a.take k) b).length ((btsL (a.take k) b).flatMap intCs)))
      (fun _ iv _ => a.length - (intOf iv).toNat)
    case atStart => exact ⟨0, _, Nat.zero_le _, rfl, rfl, HG1.out, World.ownsRow_nil _ _ _ _⟩
    case round =>
      obtain ⟨k, v, hk, rfl, rfl, hg, hown⟩ := hrel
      by_cases hlt : k < a.length
      · obtain ⟨g, o, rfl, hc⟩ := bst_at HS.out (by omega)
        obtain ⟨c0, c1, c2, c3⟩ := hc k hlt
        replace c0 := grown_cell hg.out c0; replace c1 := grown_cell hg.out c1; replace c2 := grown_cell hg.out c2; replace c3 := grown_cell hg.out c3
        obtain ⟨bb, hbb⟩ : ∃ y, bOf b a[k].sz = y := ⟨_, rfl⟩
        obtain ⟨q, hq⟩ : ∃ q, betB a[k].b bb = q := ⟨_, rfl⟩
        have hsn := bts_snoc (b := b) hlt
        rw [hbb, hq] at hsn
        have HSN := Lib.hid hsn
        have HBL := Lib.hid (bts_len a b k)
        have HBB := Lib.hid hbb; have HQ := Lib.hid hq
        clear hsn hbb hq hc
        generalize a[k] = x at *
        obtain ⟨sz, bs, ba, bf⟩ := x
        simp only at c0 c1 c2 c3
        have mixed : Try.prog.follows .mixedOrders = true := by kernel_rfl
        go_wp2_with fail
        obtain ⟨W, hW⟩ : ∃ W, wr.alloc (.cells #[.int .i64 sz, .int .i64 bs, .int .i64 ba, .bool bf] 24) = W := ⟨_, rfl⟩
        have hgW : wr.grownBy W none := by rw [← hW]; exact grown_al _ _
        have hbW : W.heap[wr.heap.size]? = some (.cells #[.int .i64 sz, .int .i64 bs, .int .i64 ba, .bool bf] 24 (0, 0)) := by rw [← hW]; exact heap_alloc_new _ _
        rw [hW]
        have x0 : ∀ p : GrW W, p.V.cell? ⟨wr.heap.size, 0, none⟩ = some (.int .i64 sz) := fun p => grown_cell p.h (mblock_cell hbW 0 _ rfl)
        have x1 : ∀ p : GrW W, p.V.cell? ⟨wr.heap.size, 1, none⟩ = some (.int .i64 bs) := fun p => grown_cell p.h (mblock_cell hbW 1 _ rfl)
        have x2 : ∀ p : GrW W, p.V.cell? ⟨wr.heap.size, 2, none⟩ = some (.int .i64 ba) := fun p => grown_cell p.h (mblock_cell hbW 2 _ rfl)
        have x3 : ∀ p : GrW W, p.V.cell? ⟨wr.heap.size, 3, none⟩ = some (.bool bf) := fun p => grown_cell p.h (mblock_cell hbW 3 _ rfl)
        have HC1 : Hid (∀ p : GrW W, Calls Try.prog 67 #[.slice bo b.length cb, .int .i64 sz] p.V fun e w' => e = .returned (.agg #[.int .i64 sz, .int .i64 bb.sum, .int .i64 bb.at_, .bool bb.found]) ∧ ∃ q : GrW W, w' = q.V) :=
          fun p => GrW.calls (bestOf_is bo cb b hb2 HPB.out sz p.V (HT.out.grown (grown_trans hg.out (grown_trans hgW p.h))) HBB)
        have HC2 : Hid (∀ p : GrW W, Calls Try.prog 64 #[.agg #[.int .i64 sz, .int .i64 bs, .int .i64 ba, .bool bf], .agg #[.int .i64 sz, .int .i64 bb.sum, .int .i64 bb.at_, .bool bb.found]] p.V fun e w' => e = .returned (.bool q) ∧ ∃ q : GrW W, w' = q.V) :=
          fun p => GrW.calls (isBetter_is sz sz ⟨bs, ba, bf⟩ bb p.V HQ)
        have HGW := Lib.hid hgW; have HBW := Lib.hid hbW
        clear hgW hbW hW c0 c1 c2 c3
        refine wp_region_quiet_gr mixed (by kernel_rfl) ?_
        repeat (quiet_step (first | (go_at_call 67; exact HC1.out _) | (go_at_call 64; exact HC2.out _)))
        refine wpQuiet_nil ?_
        rintro V ⟨p9, e9⟩
        have hV : W.grownBy V none := by rw [e9]; exact p9.h
        clear e9 p9
        have HVW : Hid (w.grownBy V none) := grown_trans hg.out (grown_trans HGW.out hV)
        have y0 : V.cell? ⟨wr.heap.size, 0, none⟩ = some (.int .i64 sz) := grown_cell hV (mblock_cell HBW.out 0 _ rfl)
        have HOV := Lib.hid (kept_own hown.out (grown_trans HGW.out hV))
        have hl0 : (btsL (a.take k) b).length ≤ 20000 := by have := HBL.out; omega
        generalize hL1 : btsL (a.take (k + 1)) b = L1 at *
        have HL1 := Lib.hid hL1
        clear hL1
        generalize btsL (a.take k) b = L0 at *
        clear x0 x1 x2 x3 HC1 HC2 hown hg HGW HBW hV HBB HQ HBL
        cases q
        · have HO2 : Hid (V.ownsRow w.heap.size 3 1 v L1.length (L1.flatMap intCs)) := by
            show World.ownsRow _ _ _ _ _ _ _
            rw [HSN.out, if_neg (by decide), List.append_nil]; exact HOV.out
          clear HOV
          go_wp2_with fail
          go_roundw
          case rel => exact ⟨k + 1, _, by omega, rfl, by go_num, HVW.out, (by show World.ownsRow _ _ _ _ _ _ _; rw [HL1.out]; exact HO2.out)⟩
          case measure => simp [intOf]; omega
        · have SZ := HVW.out.size
          have HL2 : Hid (L1 = L0 ++ [sz]) := by show _ = _; rw [HSN.out, if_pos rfl]
          clear HSN
          go_wp2_with (at_builtin; refine wpList_append_own _ rfl _ _ 22 rfl w.heap.size 3 j0 (.int .i64 0) 1 8 Try.underlying22 ji jz0 jz1 jz2 rfl (by decide) _ _ _ rfl (HOV.out.alloc _) ⟨V.heap.size, 0, none⟩ 1 1 [.int .i64 sz] rfl rfl (cell_one_new' V (.int .i64 sz) 3) (by intro u hu; simp at hu; subst hu; rfl) (by unfold maxLen; omega) (by omega) (by simp; omega) ?_; intro v' w3 hown' hgrow' _)
          have hlt2 := HOV.out.lt
          have GN : Hid (w.grownBy w3 none) := fgrown_own HVW.out hgrow' (fun g e => (hlt2 g e).1)
          have HO2 : Hid (w3.ownsRow w.heap.size 3 1 v' L1.length (L1.flatMap intCs)) := by
            show World.ownsRow _ _ _ _ _ _ _; rw [HL2.out, intCs_snoc, List.length_append]; exact hown'
          clear hown' hgrow' hlt2 SZ HOV y0
          go_wp2_with fail
          go_roundw
          case rel => exact ⟨k + 1, _, by omega, rfl, by go_num, GN.out, (by show World.ownsRow _ _ _ _ _ _ _; rw [HL1.out]; exact HO2.out)⟩
          case measure => simp [intOf]; omega
      · obtain rfl : k = a.length := by omega
        have HOF : Hid (wr.ownsRow w.heap.size 3 1 v (btsL a b).length ((btsL a b).flatMap intCs)) := by
          have q := hown.out
          rw [List.take_length] at q
          exact q
        clear hown
        go_wp2_with fail
        go_ret2
        exact ⟨⟨_, rfl, HOF.out⟩, hg.out⟩
  · rw [if_neg h0] at hv
    simp only [Prod.mk.injEq] at hv
    obtain ⟨rfl, rfl⟩ := hv
    have hne : (x != 0) = true := by simpa using h0
    clear hx h0
    go_enter Try.func29, Try.ntmps29
    go_wp2_with fail
    refine (checkBoth_is ao bo ca cb a b ha hb w HS.out HT.out HX).mono ?_; rintro e w1 ⟨rfl, hg1⟩
    have HG1 := Lib.hid hg1
    clear hg1
    go_wp2_with fail
    go_ret2
    exact ⟨⟨_, rfl, World.ownsRow_nil _ _ _ _⟩, HG1.out⟩
end Go.Proofs.Ytfeefijaahjheaa
