/- The sizes at which one curve beats another: the reference's. -/
import Derived.Test.YtfeefijaahjheaaEBts
namespace Go.Proofs.Ytfeefijaahjheaa
open Go.RowKit
set_option linter.unusedSimpArgs false
set_option linter.unusedVariables false

theorem bOf_snoc {c : List BestV} (h : c.Pairwise fun x y => x.sz < y.sz) {k : Nat} (hk : k < c.length) (s : Int) : bOf (c.take (k + 1)) s = if c[k].sz = s then c[k].b else bOf (c.take k) s := by
  by_cases e : c[k].sz = s
  · rw [if_pos e]
    have q := bOf_hit (c := c.take (k + 1)) (h.sublist (List.take_sublist _ _)) (k := k) (by simp; omega)
    simp only [List.getElem_take] at q
    rw [← e]; exact q
  · rw [if_neg e]
    unfold bOf
    rw [List.take_succ_eq_append_getElem hk, List.find?_append]
    simp [e]

set_option maxRecDepth 100000 in
set_option maxHeartbeats 3200000 in
theorem rbeats_is (ao bo : Option Addr) (ca cb : Nat) (a b : List BestV) (ha : (a.length : Int) ≤ 4398046511104) (hb : (b.length : Int) ≤ 4398046511104) (w : World) (hs : RowsAt bestCs 4 w ao a) (ht : RowsAt bestCs 4 w bo b) {R : List Int} {E : Int} (hE : Hid (btsOut a b = (R, E))) :
    Calls Try.prog 30 #[.slice ao a.length ca, .slice bo b.length cb] w fun e w' => (∃ v, e = .returned (.tuple #[v, .int .i64 E]) ∧ w'.ownsRow w.heap.size 3 1 v R.length (R.flatMap intCs)) ∧ w.grownBy w' none := by
  have HS := Lib.hid hs; have HT := Lib.hid ht
  have hv := hE.out
  unfold btsOut at hv
  obtain ⟨x, hx⟩ : ∃ x, twoE a b = x := ⟨_, rfl⟩
  rw [hx] at hv
  have HX := Lib.hid hx
  clear hs ht hE
  by_cases h0 : x = 0
  · rw [if_pos h0] at hv
    subst h0
    simp only [Prod.mk.injEq] at hv
    obtain ⟨rfl, rfl⟩ := hv
    obtain ⟨ca1, cb1⟩ := two_in hx
    have ha2 : a.length ≤ 20000 := by have := ca1.len; omega
    have hb2 : b.length ≤ 20000 := by have := cb1.len; omega
    have HPB := Lib.hid cb1.pw
    obtain ⟨j0, ji, jz0, jz1, jz2⟩ := info_parts mx_info_int
    clear hx ca1 cb1
    go_enter Try.func30, Try.ntmps30
    go_wp2_with fail
    refine (two_is ao bo ca cb a b ha hb w HS.out HT.out HX).mono ?_; rintro e w1 ⟨rfl, hg1⟩
    have HG1 := Lib.hid hg1
    clear hg1
    go_wp2_with fail
    go_loopw [7, 21] (fun ov iv wr => ∃ (k : Nat) (v : Value), k ≤ a.length ∧ v = ov ∧ iv = .int .i64 k ∧ Hid (w.grownBy wr none) ∧ Hid (wr.ownsRow w.heap.size 3 1 v (btsL (a.take k) b).length ((btsL (a.take k) b).flatMap intCs)))
      (fun _ iv _ => a.length - (intOf iv).toNat)
    case atStart => exact ⟨0, _, Nat.zero_le _, rfl, rfl, HG1.out, World.ownsRow_nil _ _ _ _⟩
    case round =>
      obtain ⟨k, v, hk, rfl, rfl, hg, hown⟩ := hrel
      by_cases hlt : k < a.length
      · obtain ⟨w0, rfl⟩ : ∃ w0, w0 = wr := ⟨wr, rfl⟩
        obtain ⟨g, o, rfl, hc⟩ := bst_at HS.out (by omega)
        obtain ⟨c0, c1, c2, c3⟩ := hc k hlt
        replace c0 := grown_cell hg.out c0; replace c1 := grown_cell hg.out c1; replace c2 := grown_cell hg.out c2; replace c3 := grown_cell hg.out c3
        obtain ⟨bb, hbb⟩ : ∃ y, bOf b a[k].sz = y := ⟨_, rfl⟩
        obtain ⟨q, hq⟩ : ∃ q, betB a[k].b bb = q := ⟨_, rfl⟩
        have hsn := bts_snoc (b := b) hlt
        rw [hbb, hq] at hsn
        have HSN := Lib.hid hsn
        have HBL := Lib.hid (bts_len a b k)
        have HBB := Lib.hid hbb; have HQ := Lib.hid hq
        clear hsn hbb hq hc
        generalize a[k] = x at *
        obtain ⟨sz, bs, ba, bf⟩ := x
        simp only at c0 c1 c2 c3
        have hb1 : ((w0.alloc (.cells #[.int .i64 sz, .int .i64 bs, .int .i64 ba, .bool bf] 24)).alloc (.cells #[.int .i64 0, .int .i64 0, .int .i64 0, .bool false] 24)).heap[w0.heap.size]? = some (.cells #[.int .i64 sz, .int .i64 bs, .int .i64 ba, .bool bf] 24 (0, 0)) := by
          rw [Below.heap_alloc _ _ _ (by simp)]; exact heap_alloc_new _ _
        have hb2 : ((w0.alloc (.cells #[.int .i64 sz, .int .i64 bs, .int .i64 ba, .bool bf] 24)).alloc (.cells #[.int .i64 0, .int .i64 0, .int .i64 0, .bool false] 24)).heap[w0.heap.size + 1]? = some (.cells #[.int .i64 0, .int .i64 0, .int .i64 0, .bool false] 24 (0, 0)) := by
          have q := heap_alloc_new (w0.alloc (.cells #[.int .i64 sz, .int .i64 bs, .int .i64 ba, .bool bf] 24)) (.cells #[.int .i64 0, .int .i64 0, .int .i64 0, .bool false] 24); simpa using q
        have hgA : w0.grownBy ((w0.alloc (.cells #[.int .i64 sz, .int .i64 bs, .int .i64 ba, .bool bf] 24)).alloc (.cells #[.int .i64 0, .int .i64 0, .int .i64 0, .bool false] 24)) none := grown_trans (grown_al _ _) (grown_al _ _)
        have HB1 := Lib.hid hb1; have HB2 := Lib.hid hb2; have HGA := Lib.hid hgA
        clear hb1 hb2 hgA
        go_wp2_with fail
        clear c0 c1 c2 c3
        go_loopw [28] (fun jv wr => ∃ (j : Nat) (z : Int) (ob : BSt), j ≤ b.length ∧ jv = .int .i64 j ∧ Hid (bOf (b.take j) sz = ob) ∧ Hid (w0.grownBy wr none) ∧ Hid (wr.heap[w0.heap.size]? = some (.cells #[.int .i64 sz, .int .i64 bs, .int .i64 ba, .bool bf] 24 (0, 0))) ∧ Hid (wr.heap[w0.heap.size + 1]? = some (.cells #[.int .i64 z, .int .i64 ob.sum, .int .i64 ob.at_, .bool ob.found] 24 (0, 0))))
          (fun jv _ => b.length - (intOf jv).toNat)
        case atStart => exact ⟨0, 0, ⟨0, 0, false⟩, Nat.zero_le _, rfl, rfl, HGA.out, HB1.out, HB2.out⟩
        case round =>
          clear HB1 HB2 HGA
          obtain ⟨j, z, ob, hj, rfl, hob, hgi, h1, h2⟩ := hrel
          have SZ1 : w0.heap.size < wr.heap.size := (Array.getElem?_eq_some_iff.1 h1.out).1
          have SZ2 : w0.heap.size + 1 < wr.heap.size := (Array.getElem?_eq_some_iff.1 h2.out).1
          have x0 : wr.cell? ⟨w0.heap.size, 0, none⟩ = some (.int .i64 sz) := mblock_cell h1.out 0 _ rfl
          by_cases hjl : j < b.length
          · obtain ⟨g2, o2, rfl, hc⟩ := bst_at HT.out (by omega)
            obtain ⟨c0, c1, c2, c3⟩ := hc j hjl
            have HGW : Hid (w.grownBy wr none) := grown_trans hg.out hgi.out
            replace c0 := grown_cell HGW.out c0; replace c1 := grown_cell HGW.out c1; replace c2 := grown_cell HGW.out c2; replace c3 := grown_cell HGW.out c3
            have hsn2 := bOf_snoc HPB.out hjl sz
            rw [hob.out] at hsn2
            have HSN2 := Lib.hid hsn2
            clear hsn2 hc
            generalize b[j] = y at *
            obtain ⟨ys, yb, ya, yf⟩ := y
            simp only at c0 c1 c2 c3 HSN2
            have HGY : Hid (w0.grownBy (wr.alloc (.cells #[.int .i64 ys, .int .i64 yb, .int .i64 ya, .bool yf] 24)) none) := grown_trans hgi.out (grown_al _ _)
            by_cases he : ys = sz
            · have HN : Hid (bOf (b.take (j + 1)) sz = ⟨yb, ya, yf⟩) := by show _ = _; rw [HSN2.out, if_pos he]
              have z0 : wr.frozen? ⟨w0.heap.size + 1, 0, none⟩ = false := mblock_free h2.out
              have z1 : wr.frozen? ⟨w0.heap.size + 1, 1, none⟩ = false := mblock_free h2.out
              have z2 : wr.frozen? ⟨w0.heap.size + 1, 2, none⟩ = false := mblock_free h2.out
              have z3 : wr.frozen? ⟨w0.heap.size + 1, 3, none⟩ = false := mblock_free h2.out
              have y0 : wr.cell? ⟨w0.heap.size + 1, 0, none⟩ = some (.int .i64 z) := mblock_cell h2.out 0 _ rfl
              have y1 : wr.cell? ⟨w0.heap.size + 1, 1, none⟩ = some (.int .i64 ob.sum) := mblock_cell h2.out 1 _ rfl
              have y2 : wr.cell? ⟨w0.heap.size + 1, 2, none⟩ = some (.int .i64 ob.at_) := mblock_cell h2.out 2 _ rfl
              have y3 : wr.cell? ⟨w0.heap.size + 1, 3, none⟩ = some (.bool ob.found) := mblock_cell h2.out 3 _ rfl
              have HS4 : Hid (w0.grownBy ((((wr.setCell ⟨w0.heap.size + 1, 0, none⟩ (.int .i64 sz)).setCell ⟨w0.heap.size + 1, 1, none⟩ (.int .i64 yb)).setCell ⟨w0.heap.size + 1, 2, none⟩ (.int .i64 ya)).setCell ⟨w0.heap.size + 1, 3, none⟩ (.bool yf)) none) :=
                mgrown_set (mgrown_set (mgrown_set (mgrown_set hgi.out (Nat.le_succ _) _ _) (Nat.le_succ _) _ _) (Nat.le_succ _) _ _) (Nat.le_succ _) _ _
              have HB4 : Hid (((((wr.setCell ⟨w0.heap.size + 1, 0, none⟩ (.int .i64 sz)).setCell ⟨w0.heap.size + 1, 1, none⟩ (.int .i64 yb)).setCell ⟨w0.heap.size + 1, 2, none⟩ (.int .i64 ya)).setCell ⟨w0.heap.size + 1, 3, none⟩ (.bool yf)).heap[w0.heap.size + 1]? = some (.cells #[.int .i64 sz, .int .i64 yb, .int .i64 ya, .bool yf] 24 (0, 0))) := by
                have q := mblock_set (k := 3) (mblock_set (k := 2) (mblock_set (k := 1) (mblock_set (k := 0) h2.out (.int .i64 sz)) (.int .i64 yb)) (.int .i64 ya)) (.bool yf)
                exact Lib.hid (by simpa using q)
              have HA4 : Hid (((((wr.setCell ⟨w0.heap.size + 1, 0, none⟩ (.int .i64 sz)).setCell ⟨w0.heap.size + 1, 1, none⟩ (.int .i64 yb)).setCell ⟨w0.heap.size + 1, 2, none⟩ (.int .i64 ya)).setCell ⟨w0.heap.size + 1, 3, none⟩ (.bool yf)).heap[w0.heap.size]? = some (.cells #[.int .i64 sz, .int .i64 bs, .int .i64 ba, .bool bf] 24 (0, 0))) :=
                mblock_far (mblock_far (mblock_far (mblock_far h1.out (by omega) _ _) (by omega) _ _) (by omega) _ _) (by omega) _ _
              clear h1 h2 hgi hob HSN2
              go_wp2_with fail
              go_roundw
              case rel => exact ⟨j + 1, sz, ⟨yb, ya, yf⟩, by omega, by go_num, HN.out, grown_trans HS4.out (grown_al _ _), mblock_at HA4.out (grown_al _ _) (by simp), mblock_at HB4.out (grown_al _ _) (by simp)⟩
              case measure => simp [intOf]; omega
            · have HN : Hid (bOf (b.take (j + 1)) sz = ob) := by show _ = _; rw [HSN2.out, if_neg he]
              have HA4 : Hid ((wr.alloc (.cells #[.int .i64 ys, .int .i64 yb, .int .i64 ya, .bool yf] 24)).heap[w0.heap.size]? = some (.cells #[.int .i64 sz, .int .i64 bs, .int .i64 ba, .bool bf] 24 (0, 0))) := mblock_at h1.out (grown_al _ _) (by simp)
              have HB4 := Lib.hid (mblock_at h2.out (grown_al wr (.cells #[.int .i64 ys, .int .i64 yb, .int .i64 ya, .bool yf] 24)) (by simp))
              have hne : (ys == sz) = false := by rw [beq_eq_false_iff_ne]; exact he
              clear h1 h2 hgi hob HSN2 he
              go_wp2_with fail
              go_roundw
              case rel => exact ⟨j + 1, z, ob, by omega, by go_num, HN.out, HGY.out, HA4.out, HB4.out⟩
              case measure => simp [intOf]; omega
          · obtain rfl : j = b.length := by omega
            have hob2 : ob = bb := by rw [← hob.out, List.take_length]; exact HBB.out
            subst hob2
            have HVW : Hid (w.grownBy wr none) := grown_trans hg.out hgi.out
            have HOV := Lib.hid (kept_own hown.out hgi.out)
            have x1 : wr.cell? ⟨w0.heap.size, 1, none⟩ = some (.int .i64 bs) := mblock_cell h1.out 1 _ rfl
            have x2 : wr.cell? ⟨w0.heap.size, 2, none⟩ = some (.int .i64 ba) := mblock_cell h1.out 2 _ rfl
            have x3 : wr.cell? ⟨w0.heap.size, 3, none⟩ = some (.bool bf) := mblock_cell h1.out 3 _ rfl
            have y0 : wr.cell? ⟨w0.heap.size + 1, 0, none⟩ = some (.int .i64 z) := mblock_cell h2.out 0 _ rfl
            have y1 : wr.cell? ⟨w0.heap.size + 1, 1, none⟩ = some (.int .i64 ob.sum) := mblock_cell h2.out 1 _ rfl
            have y2 : wr.cell? ⟨w0.heap.size + 1, 2, none⟩ = some (.int .i64 ob.at_) := mblock_cell h2.out 2 _ rfl
            have y3 : wr.cell? ⟨w0.heap.size + 1, 3, none⟩ = some (.bool ob.found) := mblock_cell h2.out 3 _ rfl
            have hl0 : (btsL (a.take k) b).length ≤ 20000 := by have := HBL.out; omega
            generalize hL1 : btsL (a.take (k + 1)) b = L1 at *
            have HL1 := Lib.hid hL1
            clear hL1
            generalize btsL (a.take k) b = L0 at *
            have H1 := Lib.hid h1.out
            clear hown hg hgi h2 h1 HBB HBL hob
            go_wp2_with fail
            refine (less_is ⟨z, ob⟩ ⟨sz, bs, ba, bf⟩ wr HQ).mono ?_; rintro e V ⟨rfl, hgV⟩
            have HV2 : Hid (w.grownBy V none) := grown_trans HVW.out hgV
            have x0v : V.cell? ⟨w0.heap.size, 0, none⟩ = some (.int .i64 sz) := grown_cell hgV x0
            have HO3 := Lib.hid (kept_own HOV.out hgV)
            clear x0 x1 x2 x3 y0 y1 y2 y3 hgV HOV HVW HQ H1
            cases q
            · have HO2 : Hid (V.ownsRow w.heap.size 3 1 v L1.length (L1.flatMap intCs)) := by
                show World.ownsRow _ _ _ _ _ _ _
                rw [HSN.out, if_neg (by decide), List.append_nil]; exact HO3.out
              clear HO3
              go_wp2_with fail
              go_roundw
              case rel => exact ⟨k + 1, _, by omega, rfl, by go_num, HV2.out, (by show World.ownsRow _ _ _ _ _ _ _; rw [HL1.out]; exact HO2.out)⟩
              case measure => simp [intOf]; omega
            · have SZ := HV2.out.size
              have HL2 : Hid (L1 = L0 ++ [sz]) := by show _ = _; rw [HSN.out, if_pos rfl]
              clear HSN
              go_wp2_with (at_builtin; refine wpList_append_own _ rfl _ _ 22 rfl w.heap.size 3 j0 (.int .i64 0) 1 8 Try.underlying22 ji jz0 jz1 jz2 rfl (by decide) _ _ _ rfl (HO3.out.alloc _) ⟨V.heap.size, 0, none⟩ 1 1 [.int .i64 sz] rfl rfl (cell_one_new' V (.int .i64 sz) 3) (by intro u hu; simp at hu; subst hu; rfl) (by unfold maxLen; omega) (by omega) (by simp; omega) ?_; intro v' w3 hown' hgrow' _)
              have hlt2 := HO3.out.lt
              have GN : Hid (w.grownBy w3 none) := fgrown_own HV2.out hgrow' (fun g e => (hlt2 g e).1)
              have HO2 : Hid (w3.ownsRow w.heap.size 3 1 v' L1.length (L1.flatMap intCs)) := by
                show World.ownsRow _ _ _ _ _ _ _; rw [HL2.out, intCs_snoc, List.length_append]; exact hown'
              clear hown' hgrow' hlt2 SZ HO3 x0v
              go_wp2_with fail
              go_roundw
              case rel => exact ⟨k + 1, _, by omega, rfl, by go_num, GN.out, (by show World.ownsRow _ _ _ _ _ _ _; rw [HL1.out]; exact HO2.out)⟩
              case measure => simp [intOf]; omega
      · obtain rfl : k = a.length := by omega
        have HOF : Hid (wr.ownsRow w.heap.size 3 1 v (btsL a b).length ((btsL a b).flatMap intCs)) := by
          have q := hown.out
          rw [List.take_length] at q
          exact q
        clear hown
        go_wp2_with fail
        go_ret2
        exact ⟨⟨_, rfl, HOF.out⟩, hg.out⟩
  · rw [if_neg h0] at hv
    simp only [Prod.mk.injEq] at hv
    obtain ⟨rfl, rfl⟩ := hv
    have hne : (x != 0) = true := by simpa using h0
    clear hx h0
    go_enter Try.func30, Try.ntmps30
    go_wp2_with fail
    refine (two_is ao bo ca cb a b ha hb w HS.out HT.out HX).mono ?_; rintro e w1 ⟨rfl, hg1⟩
    have HG1 := Lib.hid hg1
    clear hg1
    go_wp2_with fail
    go_ret2
    exact ⟨⟨_, rfl, World.ownsRow_nil _ _ _ _⟩, HG1.out⟩
end Go.Proofs.Ytfeefijaahjheaa
