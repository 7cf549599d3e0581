/- The contract of joined. -/
import Derived.Test.YtbacoopopokkfaaDoorQSetG
import Derived.Test.YtbacoopopokkfaaDoorQSpSort
import Derived.BigRegion
import Derived.BigQuiet
namespace Go.Proofs.YtbacoopopokkfaaDoor
open Go.RowKit Go.Shelf
set_option linter.unusedSimpArgs false
set_option linter.unusedVariables false

theorem grown_then2 {w W W' : World} {r r2 : Option Nat} (h : w.grownBy W r) (g : W.grownBy W' r2) (hr : ∀ k, r2 = some k → w.heap.size ≤ k) : w.grownBy W' r :=
  ⟨g.os.trans h.os, g.tape.trans h.tape, g.output.trans h.output, Nat.le_trans h.size g.size, fun i hi hne => (g.block i (Nat.lt_of_lt_of_le hi h.size) (fun e => by have := hr i e.symm; omega)).trans (h.block i hi hne)⟩
theorem grown_set (W : World) (b k : Nat) (v : Value) : W.grownBy (W.setCell ⟨b, k, none⟩ v) (some b) :=
  ⟨rfl, rfl, rfl, by simp [World.setCell], fun i hi hne => by
    rw [Below.heap_setCell _ _ _ _ (fun e => hne (by rw [e]))]⟩
theorem take_jn {S : List SpV} {k : Nat} (hk : k < S.length) : jnL (S.take (k + 1)) = jnS (jnL (S.take k)) S[k] := by rw [List.take_succ_eq_append_getElem hk, jn_snoc]

set_option maxRecDepth 100000 in
set_option maxHeartbeats 6400000 in
theorem joined_is (b : Nat) (v : Value) (L : List SpV) (hl : L.length ≤ 100000) (hb : InB L) (w : World) (ho : SpOwn b w v L) :
    Calls Tryd.prog 22 #[v] w fun x w' => (∃ (S : List SpV) (v' : Value), S.Perm L ∧ (S.Pairwise fun x y => x.fr ≤ y.fr) ∧ x = .returned v' ∧ SpOwn w.heap.size w' v' (jnL S)) ∧ w.grownBy w' v.ownBlock := by
  obtain ⟨i0, hi, hz0, hz1, hz2⟩ := info_parts zero_sp
  have HI0 := Lib.hid hi; have HZ0 := Lib.hid hz0; have HZ1 := Lib.hid hz1; have HZ2 := Lib.hid hz2
  obtain ⟨ao, cap, rfl, _⟩ := ho.rows
  have HO := Lib.hid ho
  have HLV := Lib.hid ho.lt
  clear hi hz0 hz1 hz2 ho
  go_enter Tryd.func22, Tryd.ntmps22
  go_wp2_with fail
  refine (sortSp_is b _ L (by omega) _ HO.out).mono ?_
  rintro e w4 ⟨rfl, ⟨S, hperm, hpw, hlen, ho4⟩, hg4⟩
  have ho5 : SpOwn b w4 (.slice ao L.length cap) S := by unfold SpOwn; rw [hlen]; exact ho4
  obtain ⟨ao2, cap2, he2, hr4⟩ := ho5.rows
  obtain ⟨rfl, _, rfl⟩ : ao = ao2 ∧ L.length = S.length ∧ cap = cap2 := by simpa using he2
  have HOB : Hid ((Value.slice ao S.length cap).ownBlock = (Value.slice ao L.length cap).ownBlock) := by show _ = _; rw [hlen]
  have HIB : Hid (InB S) := fun x hx => hb x (hperm.mem_iff.1 hx)
  have HPW := Lib.hid hpw; have HPERM := Lib.hid hperm; have HLEN0 := Lib.hid hlen
  have HAB : Hid (∀ a, ao = some a → S ≠ [] → a.block < w.heap.size) := fun a e hne => by
    subst e
    exact (HLV.out a.block rfl).2
  have HR4 := Lib.hid hr4
  have HG4 : Hid (w.grownBy w4 (Value.slice ao S.length cap).ownBlock) := by show w.grownBy _ _; rw [hlen]; exact hg4
  have hS : S.length ≤ 100000 := by omega
  rw [← hlen]
  clear hperm hpw hlen ho4 hg4 ho5 he2 hr4 hb HO
  go_wp2_with fail
  go_loopw [3, 11] (fun sv iv wr => (∃ (k : Nat) (acc : List SpV) (u : Value), k ≤ S.length ∧ iv = .int .i64 k ∧ u = sv ∧ Hid (acc = jnL (S.take k)) ∧ Hid (SpOwn w.heap.size wr u acc) ∧ Hid (RowsAt spCs 2 wr ao S)) ∧ Hid (w.grownBy wr (Value.slice ao S.length cap).ownBlock)) (fun _ iv _ => S.length - (intOf iv).toNat)
  case atStart => exact ⟨⟨0, [], _, Nat.zero_le _, rfl, rfl, rfl, SpOwn.nil _ _, HR4.out⟩, HG4.out⟩
  case round =>
    obtain ⟨⟨k, acc, u, hk, rfl, rfl, hacc, ho, hr⟩, hg⟩ := hrel
    clear HR4 HG4
    by_cases hlt : k < S.length
    · obtain ⟨b1, o1, rfl, q1⟩ := sp_at hr.out (by omega)
      obtain ⟨x0, x1⟩ := q1 k hlt
      have hx := HIB.out _ (List.getElem_mem hlt)
      have HNX := Lib.hid (take_jn hlt)
      have hjo := jn_ok (S.take k).length (Nat.le_refl _) (HPW.out.sublist (List.take_sublist k S)) (fun x hx => (HIB.out x (List.mem_of_mem_take hx)).2.1)
      rw [← hacc.out] at HNX hjo
      have HBD : Hid (∀ y ∈ acc, 0 ≤ y.to_ ∧ y.to_ ≤ 1000000000000) := fun y hy => by
        obtain ⟨_, z, hz, e⟩ := hjo.2.2.1 y hy
        have := HIB.out z (List.mem_of_mem_take hz)
        omega
      have hal : acc.length ≤ 100000 := by have := hjo.2.2.2; simp only [List.length_take] at this; omega
      generalize S[k] = x at *
      obtain ⟨xf, xt⟩ := x
      simp only at x0 x1 hx
      clear q1 hjo hacc
      obtain ⟨n, hn⟩ : ∃ n, acc.length = n := ⟨_, rfl⟩
      have HLEN := Lib.hid hn
      rw [hn] at hal
      obtain ⟨ua, uc, rfl, hur⟩ := ho.out.rows
      rw [hn] at ho ⊢
      have HUR := Lib.hid hur
      clear hur hn
      by_cases h0 : n = 0
      · subst h0
        have HJN : Hid (jnS acc ⟨xf, xt⟩ = acc ++ [⟨xf, xt⟩]) := by
          show _ = _
          unfold jnS; rw [HLEN.out, if_neg (by omega)]
        go_wp2_with fail
        go_quiet (fail)
        have G6 : Hid (wr.grownBy ((wr.alloc (.cells #[.int .i64 xf, .int .i64 xt] 37)).drewN nq) none) := grown_trans (World.grownBy_alloc wr _ none) (grown_drewN _ none nq)
        have z0 : ((wr.alloc (.cells #[.int .i64 xf, .int .i64 xt] 37)).drewN nq).cell? ⟨wr.heap.size, 0, none⟩ = some (.int .i64 xf) := mblock_cell (c := #[.int .i64 xf, .int .i64 xt]) (mheap_new wr _) 0 _ rfl
        have z1 : ((wr.alloc (.cells #[.int .i64 xf, .int .i64 xt] 37)).drewN nq).cell? ⟨wr.heap.size, 1, none⟩ = some (.int .i64 xt) := mblock_cell (c := #[.int .i64 xf, .int .i64 xt]) (mheap_new wr _) 1 _ rfl
        have hs6 : Hid (wr.heap.size < ((wr.alloc (.cells #[.int .i64 xf, .int .i64 xt] 37)).drewN nq).heap.size) := by show _ < _; simp
        generalize ((wr.alloc (.cells #[.int .i64 xf, .int .i64 xt] 37)).drewN nq) = W6 at *
        have HG6 := Lib.hid (grown_then2 hg.out G6.out (fun k e => by cases e))
        have HR6 := Lib.hid (hr.out.grown G6.out)
        have HSZ6 := Lib.hid HG6.out.size
        have HO6 : Hid (W6.ownsRow w.heap.size 37 2 (.slice ua 0 uc) 0 (acc.flatMap spCs)) := by
          have q : W6.ownsRow w.heap.size 37 2 (.slice ua 0 uc) acc.length (acc.flatMap spCs) := ho.out.keep G6.out
          rw [HLEN.out] at q; exact q
        have hi := HI0.out; have hz0 := HZ0.out; have hz1 := HZ1.out; have hz2 := HZ2.out
        clear x0 x1 hg hr ho G6 hs6
        go_wp2_with (at_builtin; refine wpList_append_own _ rfl _ _ 22 rfl w.heap.size 37 i0 (.agg #[.int .i64 0, .int .i64 0]) 2 16 Tryd.underlying22 hi hz0 hz1 hz2 rfl ?a1 _ (0) _ rfl (HO6.out.alloc _) ⟨W6.heap.size, 0, none⟩ 1 1 [.int .i64 xf, .int .i64 xt] rfl rfl ?a6 ?a2 ?a3 ?a4 ?a5 ?a7; (case a1 => decide); (case a2 => simp [Value.oneCell']); (case a3 => unfold maxLen; omega); (case a4 => omega); (case a5 => have := HSZ6.out; simp; omega); (case a6 => exact World.news_of_block (cs := #[.int .i64 xf, .int .i64 xt]) (t := 37) (fr := (0, 0)) (mheap_new W6 _)); intro v' w3 hown' hgrow' _; have HN : Hid (SpOwn w.heap.size w3 v' (acc ++ [⟨xf, xt⟩])) := SpOwn.more (by rw [HLEN.out]; exact hown'); have HG9 := Lib.hid (grown_then2 HG6.out (World.grownBy_alloc W6 (.cells #[.int .i64 xf, .int .i64 xt] 37) none) (fun k e => by cases e)); have HG10 := Lib.hid (grown_then2 HG9.out hgrow' (fun r e => (HO6.out.lt r e).1)); have HR10 := Lib.hid ((HR6.out.grown (World.grownBy_alloc W6 (.cells #[.int .i64 xf, .int .i64 xt] 37) none)).kept hgrow' (fun a e hne => fun e2 => absurd (HAB.out a e hne) (Nat.not_lt.2 (HO6.out.lt _ e2.symm).1))); clear hown' hgrow' hi hz0 hz1 hz2 z0 z1)
        go_wp2_with fail
        go_roundw
        case rel => exact ⟨⟨k + 1, _, v', by omega, by go_num, rfl, (by show _ = _; rw [HNX.out, HJN.out]), HN.out, HR10.out⟩, HG10.out⟩
        case measure => simp [intOf]; omega
      · obtain ⟨m, rfl⟩ : ∃ m, n = m + 1 := ⟨n - 1, by omega⟩
        obtain ⟨gb, rfl⟩ : ∃ gb, ua = some ⟨gb, 0, none⟩ := by
          have q : wr.ownsRow w.heap.size 37 2 (.slice ua (m + 1) uc) acc.length (acc.flatMap spCs) := ho.out
          rcases q.2 with ⟨e, q2⟩ | ⟨g', c', cur, e, _⟩
          · have := HLEN.out; omega
          · simp only [Value.slice.injEq] at e; exact ⟨g', e.1⟩
        have HO5 : Hid (wr.ownsRow w.heap.size 37 2 (.slice (some ⟨gb, 0, none⟩) (m + 1) uc) (m + 1) (acc.flatMap spCs)) := by
          have q : wr.ownsRow w.heap.size 37 2 (.slice (some ⟨gb, 0, none⟩) (m + 1) uc) acc.length (acc.flatMap spCs) := ho.out
          rw [HLEN.out] at q; exact q
        have hmL : m < acc.length := by have := HLEN.out; omega
        have hLm : acc[m]? = some acc[m] := List.getElem?_eq_getElem hmL
        have hlast : spLast acc = acc[m] := by unfold spLast; rw [HLEN.out, Nat.add_sub_cancel, List.getD_eq_getElem?_getD, hLm]; rfl
        have hbm := HBD.out _ (List.getElem_mem hmL)
        have e1 := own_cellK spCs_len HO5.out HLEN.out (show m < m + 1 by omega) hLm (c := 1) rfl
        obtain ⟨lt, hlt2⟩ : ∃ lt, acc[m].to_ = lt := ⟨_, rfl⟩
        rw [hlt2] at e1 hbm
        have HLT : Hid ((spLast acc).to_ = lt) := by show _ = _; rw [hlast]; exact hlt2
        have HFR : Hid (spLast acc = ⟨acc[m].fr, lt⟩) := by show _ = _; rw [hlast, ← hlt2]
        have rk1 : IntKind.i64.wrap (lt + 1) = lt + 1 := IntWalk.i64_in _ (by omega)
        have rm1 : IntKind.i64.wrap ((m : Int) + 1 - 1) = (m : Int) := by rw [show (m : Int) + 1 - 1 = (m : Int) by omega]; exact IntWalk.i64_in _ (by omega)
        have rm2 : IntKind.i64.wrap (m : Int) = (m : Int) := IntWalk.i64_in _ (by omega)
        have im0 : (0 : Int) ≤ (m : Int) := by omega
        have im1 : (m : Int) < (m : Int) + 1 := by omega
        have im2 : decide ((0 : Int) ≤ (m : Int)) = true := decide_eq_true im0
        have ga := World.grownBy_alloc wr (.cells #[.int .i64 xf, .int .i64 xt] 37) none
        have e2 : (wr.alloc (.cells #[.int .i64 xf, .int .i64 xt] 37)).cell? ⟨gb, m * 2 + 1, none⟩ = some (.int .i64 lt) := ga.cell e1 (by simp)
        have HGB : Hid (w.heap.size ≤ gb ∧ gb < wr.heap.size) := HO5.out.lt gb rfl
        have E1 := Lib.hid e1
        clear ga hlast hLm hlt2 h0
        by_cases hc : xf ≤ lt + 1
        · have hqc : decide (xf ≤ lt + 1) = true := decide_eq_true hc
          as_aux_lemma =>
            go_wp2_with fail
            go_quiet (fail)
            have G6 : Hid (wr.grownBy ((wr.alloc (.cells #[.int .i64 xf, .int .i64 xt] 37)).drewN nq) none) := grown_trans (World.grownBy_alloc wr _ none) (grown_drewN _ none nq)
            have z0 : ((wr.alloc (.cells #[.int .i64 xf, .int .i64 xt] 37)).drewN nq).cell? ⟨wr.heap.size, 0, none⟩ = some (.int .i64 xf) := mblock_cell (c := #[.int .i64 xf, .int .i64 xt]) (mheap_new wr _) 0 _ rfl
            have z1 : ((wr.alloc (.cells #[.int .i64 xf, .int .i64 xt] 37)).drewN nq).cell? ⟨wr.heap.size, 1, none⟩ = some (.int .i64 xt) := mblock_cell (c := #[.int .i64 xf, .int .i64 xt]) (mheap_new wr _) 1 _ rfl
            have hs6 : Hid (wr.heap.size < ((wr.alloc (.cells #[.int .i64 xf, .int .i64 xt] 37)).drewN nq).heap.size) := by show _ < _; simp
            generalize ((wr.alloc (.cells #[.int .i64 xf, .int .i64 xt] 37)).drewN nq) = W6 at *
            have HG6 := Lib.hid (grown_then2 hg.out G6.out (fun k e => by cases e))
            have HR6 := Lib.hid (hr.out.grown G6.out)
            have HO6 : Hid (W6.ownsRow w.heap.size 37 2 (.slice (some ⟨gb, 0, none⟩) (m + 1) uc) (m + 1) (acc.flatMap spCs)) := keptR HO5.out G6.out
            have f6 : W6.cell? ⟨gb, m * 2 + 1, none⟩ = some (.int .i64 lt) := G6.out.cell E1.out (by simp)
            have fr6 : W6.frozen? ⟨gb, m * 2 + 1, none⟩ = false := own_freeK HO6.out (m * 2 + 1)
            clear x0 x1 e1 e2 hg hr
            go_wp2_with fail
            go_region
            have HN : Hid (SpOwn w.heap.size (W6.setCell ⟨gb, m * 2 + 1, none⟩ (.int .i64 (max lt xt))).drew (.slice (some ⟨gb, 0, none⟩) (m + 1) uc) (jnS acc ⟨xf, xt⟩)) := by
              have q := keptR (own_setV HO6.out (i := m * 2 + 1) (.int .i64 (max lt xt))) (grown_drewN (W6.setCell ⟨gb, m * 2 + 1, none⟩ (.int .i64 (max lt xt))) none 1)
              have e : jnS acc ⟨xf, xt⟩ = acc.set m ⟨acc[m].fr, max lt xt⟩ := by
                unfold jnS
                rw [if_pos ⟨by omega, by rw [HLT.out]; exact hc⟩, HFR.out, HLEN.out]; rfl
              rw [← sp_set acc m hmL] at q
              show World.ownsRow _ _ _ _ _ _ _
              rw [e, List.length_set, HLEN.out]; exact q
            have GD : World.grownBy (W6.setCell ⟨gb, m * 2 + 1, none⟩ (.int .i64 (max lt xt))) (W6.setCell ⟨gb, m * 2 + 1, none⟩ (.int .i64 (max lt xt))).drew none := grown_drewN _ none 1
            have HG7 := Lib.hid (grown_then2 (grown_then2 HG6.out (grown_set W6 gb (m * 2 + 1) (.int .i64 (max lt xt))) (fun k e => by cases e; exact HGB.out.1)) GD (fun k e => by cases e))
            have HR7 := Lib.hid ((HR6.out.kept (grown_set W6 gb (m * 2 + 1) (.int .i64 (max lt xt))) (fun a e hne => fun e2 => absurd (HAB.out a e hne) (by cases e2; exact Nat.not_lt.2 HGB.out.1))).grown GD)
            clear f6 fr6 z0 z1 GD
            generalize (W6.setCell ⟨gb, m * 2 + 1, none⟩ (.int .i64 (max lt xt))).drew = W7 at *
            go_wp2_with fail
            go_roundw
            case rel => exact ⟨⟨k + 1, _, _, by omega, by go_num, rfl, HNX.out.symm, HN.out, HR7.out⟩, HG7.out⟩
            case measure => simp [intOf]; omega
        · have hqc : decide (xf ≤ lt + 1) = false := decide_eq_false hc
          have HJN : Hid (jnS acc ⟨xf, xt⟩ = acc ++ [⟨xf, xt⟩]) := by
            show _ = _
            unfold jnS
            rw [if_neg (fun h => by have := h.2; rw [HLT.out] at this; exact hc this)]
          as_aux_lemma =>
            go_wp2_with fail
            go_quiet (fail)
            have G6 : Hid (wr.grownBy ((wr.alloc (.cells #[.int .i64 xf, .int .i64 xt] 37)).drewN nq) none) := grown_trans (World.grownBy_alloc wr _ none) (grown_drewN _ none nq)
            have z0 : ((wr.alloc (.cells #[.int .i64 xf, .int .i64 xt] 37)).drewN nq).cell? ⟨wr.heap.size, 0, none⟩ = some (.int .i64 xf) := mblock_cell (c := #[.int .i64 xf, .int .i64 xt]) (mheap_new wr _) 0 _ rfl
            have z1 : ((wr.alloc (.cells #[.int .i64 xf, .int .i64 xt] 37)).drewN nq).cell? ⟨wr.heap.size, 1, none⟩ = some (.int .i64 xt) := mblock_cell (c := #[.int .i64 xf, .int .i64 xt]) (mheap_new wr _) 1 _ rfl
            have hs6 : Hid (wr.heap.size < ((wr.alloc (.cells #[.int .i64 xf, .int .i64 xt] 37)).drewN nq).heap.size) := by show _ < _; simp
            generalize ((wr.alloc (.cells #[.int .i64 xf, .int .i64 xt] 37)).drewN nq) = W6 at *
            have HG6 := Lib.hid (grown_then2 hg.out G6.out (fun k e => by cases e))
            have HR6 := Lib.hid (hr.out.grown G6.out)
            have HSZ6 := Lib.hid HG6.out.size
            have HO6 : Hid (W6.ownsRow w.heap.size 37 2 (.slice (some ⟨gb, 0, none⟩) (m + 1) uc) (m + 1) (acc.flatMap spCs)) := keptR HO5.out G6.out
            have hi := HI0.out; have hz0 := HZ0.out; have hz1 := HZ1.out; have hz2 := HZ2.out
            clear x0 x1 e1 e2 hg hr ho G6 hs6
            go_wp2_with (at_builtin; refine wpList_append_own _ rfl _ _ 22 rfl w.heap.size 37 i0 (.agg #[.int .i64 0, .int .i64 0]) 2 16 Tryd.underlying22 hi hz0 hz1 hz2 rfl ?q1 _ (m + 1) _ rfl (HO6.out.alloc _) ⟨W6.heap.size, 0, none⟩ 1 1 [.int .i64 xf, .int .i64 xt] rfl rfl ?q6 ?q2 ?q3 ?q4 ?q5 ?q7; (case q1 => decide); (case q2 => simp [Value.oneCell']); (case q3 => unfold maxLen; omega); (case q4 => omega); (case q5 => have := HSZ6.out; simp; omega); (case q6 => exact World.news_of_block (cs := #[.int .i64 xf, .int .i64 xt]) (t := 37) (fr := (0, 0)) (mheap_new W6 _)); intro v' w3 hown' hgrow' _; have HN : Hid (SpOwn w.heap.size w3 v' (acc ++ [⟨xf, xt⟩])) := SpOwn.more (by rw [HLEN.out]; exact hown'); have HG9 := Lib.hid (grown_then2 HG6.out (World.grownBy_alloc W6 (.cells #[.int .i64 xf, .int .i64 xt] 37) none) (fun k e => by cases e)); have HG10 := Lib.hid (grown_then2 HG9.out hgrow' (fun r e => (HO6.out.lt r e).1)); have HR10 := Lib.hid ((HR6.out.grown (World.grownBy_alloc W6 (.cells #[.int .i64 xf, .int .i64 xt] 37) none)).kept hgrow' (fun a e hne => fun e2 => absurd (HAB.out a e hne) (Nat.not_lt.2 (HO6.out.lt _ e2.symm).1))); clear hown' hgrow' hi hz0 hz1 hz2 z0 z1)
            go_wp2_with fail
            go_roundw
            case rel => exact ⟨⟨k + 1, _, v', by omega, by go_num, rfl, (by show _ = _; rw [HNX.out, HJN.out]), HN.out, HR10.out⟩, HG10.out⟩
            case measure => simp [intOf]; omega
    · have HD : Hid (acc = jnL S) := by
        have q := hacc.out
        rw [List.take_of_length_le (by omega)] at q; exact q
      go_wp2_with fail
      go_ret
      exact ⟨⟨S, u, HPERM.out, HPW.out, rfl, by rw [← HD.out]; exact ho.out⟩, by rw [← HOB.out]; exact hg.out⟩
end Go.Proofs.YtbacoopopokkfaaDoor
