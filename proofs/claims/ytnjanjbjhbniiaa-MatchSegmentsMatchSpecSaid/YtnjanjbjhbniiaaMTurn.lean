/- The contract of Turned. -/
import Derived.Test.YtnjanjbjhbniiaaMIter
import Derived.Test.YtnjanjbjhbniiaaMSeg
import Derived.Lib.SliceRun
import Derived.Maps.AppendAt
import Derived.Laws.AppendOwn
import Derived.BigFrameIn
import Derived.Deep.AppendLies
namespace Go.Proofs.Ytnjanjbjhbniiaa
open Go.RowKit Go.Shelf
set_option linter.unusedSimpArgs false
set_option linter.unusedVariables false

attribute [local go_sem] Oper.semAt_some

theorem mown_cells {w w' : World} {base : Nat} {e : TypeId} {size n : Nat} {v : Value} {xs : List Value} (h : w.ownsRow base e size v n xs) {row : Option Nat} (hg : w.grownBy w' row) (hr : ∀ r, row = some r → ∃ o : Obj, w.heap[r]? = some o ∧ o.isCells = false) : w'.ownsRow base e size v n xs :=
  h.kept hg (by
    rcases h.2 with ⟨hv, _⟩ | ⟨g, cap, cur, rfl, hb, hgg, rest⟩
    · exact .inl (by rw [hv]; rfl)
    · refine .inr (fun e' => ?_)
      obtain ⟨o, ho, hc⟩ := hr g (by rw [← e']; rfl)
      rw [hgg] at ho; cases ho; cases hc)
theorem mcell_lt {w : World} {b k : Nat} {v : Value} (h : w.cell? ⟨b, k, none⟩ = some v) : b < w.heap.size := by
  rcases Nat.lt_or_ge b w.heap.size with q | q
  · exact q
  · simp [World.cell?, Array.getElem?_eq_none q] at h
theorem mblk_kept {W W' : World} {row : Option Nat} {B : Nat} {o : Obj} (h : W.heap[B]? = some o) (hc : o.isCells = true) (hg : W.grownBy W' row) (hrow : ∀ r, row = some r → ∃ o : Obj, W.heap[r]? = some o ∧ o.isCells = false) : W'.heap[B]? = some o :=
  (hg.block B (Array.getElem?_eq_some_iff.1 h).1 (fun e => by
    obtain ⟨o', ho, hc'⟩ := hrow B e.symm
    rw [h] at ho; cases ho; rw [hc] at hc'; cases hc')).trans h
def gtA (g : Gt) : Array Value := #[.int .i64 g.ax, .int .i64 g.ay, .int .i64 g.bx, .int .i64 g.by_]
/-- The first k gates turned. -/
def prL {gs : List Gt} (pre : List (GtNo gs)) : List Gt := pre.map fun x => gtTurn (gs[x.1]'x.2)
theorem prL_snoc {gs : List Gt} (pre : List (GtNo gs)) (x : GtNo gs) : prL (pre ++ [x]) = prL pre ++ [gtTurn (gs[x.1]'x.2)] := by unfold prL; simp
theorem prL_all {gs : List Gt} {ys : List (GtNo gs)} (h : ys.map (·.1) = bwd gs.length gs.length) : prL ys = turnG gs := by
  have hl : ys.length = gs.length := by have := congrArg List.length h; rw [bwd_len] at this; simpa using this
  apply List.ext_getElem
  · unfold prL; rw [List.length_map, turnG_len, hl]
  · intro i h1 h2
    have hi : i < ys.length := by unfold prL at h1; simpa using h1
    have e : (ys[i]).1 = gs.length - 1 - i := by
      have h3 : (ys.map (·.1))[i]? = (bwd gs.length gs.length)[i]? := by rw [h]
      unfold bwd at h3
      simp only [List.getElem?_map, List.getElem?_eq_getElem hi, Option.map_some] at h3
      rw [List.getElem?_eq_getElem (by rw [List.length_range]; omega), List.getElem_range] at h3
      simpa using h3
    simp only [prL, turnG, List.getElem_reverse, List.getElem_map, List.length_map, e]

set_option maxRecDepth 100000 in
set_option maxHeartbeats 6400000 in
theorem Turned_is (s : Seg) (w : World) (hs : SegAt w s) {E : Int} (hE : Hid (segE s.name s.gs = E)) :
    Calls Try.prog 9 #[s.val] w fun e w' => (∃ ao cap, e = .returned (.tuple #[.agg #[.string (tnN s), .slice ao (tnL s).length cap], .int .i64 E]) ∧ GatesAt w' ao (tnL s)) ∧ w.grownBy w' none := by
  have HS := Lib.hid hs
  obtain ⟨N, hN⟩ : ∃ n, tnN s = n := ⟨_, rfl⟩
  obtain ⟨L, hL⟩ : ∃ n, tnL s = n := ⟨_, rfl⟩
  rw [hN, hL]
  unfold tnN at hN
  unfold tnL at hL
  rw [hE.out] at hN hL
  obtain ⟨nm, go_, gc, gs⟩ := s
  simp only [Seg.val] at *
  have G0 : Hid (w.grownBy ((w.alloc (.cells #[.string nm, .slice go_ gs.length gc] 24)).alloc (.cells #[.string ⟨#[]⟩, .slice none 0 0] 24)) none) := grown_trans (World.grownBy_alloc _ _ _) (World.grownBy_alloc _ _ _)
  have BA : Hid (((w.alloc (.cells #[.string nm, .slice go_ gs.length gc] 24)).alloc (.cells #[.string ⟨#[]⟩, .slice none 0 0] 24)).heap[w.heap.size]? = some (.cells #[.string nm, .slice go_ gs.length gc] 24 (0, 0))) := mblock_at (row := none) (mheap_new w _) (World.grownBy_alloc _ _ _) (by simp)
  have BR : Hid (((w.alloc (.cells #[.string nm, .slice go_ gs.length gc] 24)).alloc (.cells #[.string ⟨#[]⟩, .slice none 0 0] 24)).heap[w.heap.size + 1]? = some (.cells #[.string ⟨#[]⟩, .slice none 0 0] 24 (0, 0))) := by
    have q := mheap_new (w.alloc (.cells #[.string nm, .slice go_ gs.length gc] 24)) (.cells #[.string ⟨#[]⟩, .slice none 0 0] 24)
    rw [show (w.alloc (.cells #[.string nm, .slice go_ gs.length gc] 24)).heap.size = w.heap.size + 1 by simp] at q
    exact q
  by_cases h0 : E = 0
  · rw [if_pos h0] at hN hL
    subst h0; subst hN
    have hlen := gates_in hE.out
    have HLEN := Lib.hid hlen
    have HLL := Lib.hid hL
    obtain ⟨b, off, hgo, qg⟩ := gates_at hs.hg (by show 0 < gs.length; omega)
    simp only at hgo
    subst hgo
    obtain ⟨i0, hi, hz0, hz1, hz2⟩ := info_parts info_gt
    have HI0 := Lib.hid hi; have HZ0 := Lib.hid hz0; have HZ1 := Lib.hid hz1; have HZ2 := Lib.hid hz2
    have BW : Hid (b < w.heap.size) := by
      have q := (qg 0 (by show 0 < gs.length; omega)).1
      exact mcell_lt q
    clear hs hL hlen qg hi hz0 hz1 hz2
    refine (callsIn_wide (n := 4)).1 ?_
    refine callsIn_of_wp_marks Try.func9 rfl trivial ?_ rfl
    simp only [Try.ntmps9, List.size_toArray, List.length_cons, List.length_nil, Nat.reduceAdd, Nat.reduceSub, Array.replicate_succ, Array.replicate_zero, List.push_toArray, List.append_toArray, List.nil_append, List.cons_append]
    gi_wp2_with (refine ⟨trivial, ?_⟩; first
      | (gi_at_call 11; refine (callsIn_wide.2 (checkSeg_is ⟨nm, some ⟨b, off, none⟩, gc, gs⟩ _ (HS.out.grown G0.out) hE)).mono ?_; rintro e w1 ⟨rfl, hg1⟩; have HG1 := Lib.hid hg1; have a0 := mblock_cell (mblock_at BA.out hg1 (by simp)) 0 _ rfl; have a1 := grown_cell (World.grownBy_alloc w1 (.cells #[.string nm, .slice none 0 0] 24) none) (mblock_cell (mblock_at BA.out hg1 (by simp)) 1 _ rfl); clear hg1)
      | (gi_at_call 35; refine (callsIn_wide.2 (back_any _ _ _ _)).mono ?_; rintro e w' ⟨rfl, rfl⟩))
    have G1 := Lib.hid (grown_trans G0.out HG1.out)
    have BR1 := Lib.hid (mblock_at BR.out HG1.out (by simp))
    clear a0 a1
    obtain ⟨X, hX⟩ : ∃ X, w1.heap.size = X := ⟨_, rfl⟩
    have hXw : w.heap.size + 1 < X := by have := lt_of_block BR1.out; omega
    obtain ⟨W0, hW0⟩ : ∃ W0, (w1.alloc (.cells #[.string nm, .slice none 0 0] 24)).alloc (.cells #[.slice (some ⟨b, off, none⟩) gs.length gc] 22) = W0 := ⟨_, rfl⟩
    have hsz0 : W0.heap.size = X + 2 := by rw [← hW0, ← hX]; simp
    have bX0 : W0.heap[X]? = some (.cells #[.string nm, .slice none 0 0] 24 (0, 0)) := by rw [← hW0, ← hX]; exact mblock_at (row := none) (mheap_new w1 _) (World.grownBy_alloc _ _ _) (by simp)
    have bS0 : Boxed W0 (X + 1) 22 (.slice (some ⟨b, off, none⟩) gs.length gc) := by
      rw [← hW0, ← hX]
      have q := Boxed.new (w1.alloc (.cells #[.string nm, .slice none 0 0] 24)) 22 (.slice (some ⟨b, off, none⟩) gs.length gc)
      simpa using q
    have gW : w1.grownBy W0 none := by rw [← hW0]; exact grown_trans (World.grownBy_alloc _ _ _) (World.grownBy_alloc _ _ _)
    have bR0 : W0.heap[w.heap.size + 1]? = some (.cells #[.string ⟨#[]⟩, .slice none 0 0] 24 (0, 0)) := mblock_at BR1.out gW (by simp)
    have GW := Lib.hid (grown_trans G1.out gW)
    have hB0 : Below w.heap.size w W0 := below_grown GW.out
    have hs0 : GatesAt W0 (some ⟨b, off, none⟩) gs := HS.out.hg.grown GW.out
    have HS0 := Lib.hid hs0
    have hn0s : w.heap.size ≤ W0.heap.size := GW.out.size
    have HSZ := Lib.hid hsz0; have HXW := Lib.hid hXw; have HBS := Lib.hid bS0
    have eS : (w1.alloc (.cells #[.string nm, .slice none 0 0] 24)).heap.size = X + 1 := by rw [← hX]; simp
    try rw [eS]
    rw [hW0]
    try rw [hX]
    clear hW0 eS gW hs0 G1 BR1 BA BR G0 HG1
    refine wpIn_rangeFunc_ownH (α := GtNo gs) rfl (by omega) (gf := 67) (lb := #[.pointer (some ⟨X + 1, 0, none⟩)]) rfl trivial (enters_of Try.func67 (by kernel_rfl) rfl)
      (encs := fun x => #[.int .i64 (x.1 : Nat), gtV (gs[x.1]'x.2)]) (Kp := KpB w.heap.size (X + 1)) (S := fun ys => ys.map (·.1) = bwd gs.length gs.length) (Sp := fun _ => True) (N := gs.length) (w0 := W0) ?seq kpB_t ?kb (Below.refl _ _) (fun _ => rfl)
      (fun pre W => ∃ v, W.heap[X]? = some (.cells #[.string nm, v] 24 (0, 0)) ∧ W.ownsRow W0.heap.size 73 4 v pre.length (gtRw (prL pre)) ∧ W.heap[w.heap.size + 1]? = some (.cells #[.string ⟨#[]⟩, .slice none 0 0] 24 (0, 0)) ∧ Boxed W (X + 1) 22 (.slice (some ⟨b, off, none⟩) gs.length gc) ∧ Below w.heap.size w W)
      (fun _ _ _ => False)
      (fun pre A B row hs hg hr => by
        obtain ⟨v, h1, h2, h3, h4, h5⟩ := hs
        exact ⟨v, mblk_kept h1 rfl hg (fun r e => (hr r e).2), mown_cells h2 hg (fun r e => (hr r e).2), mblk_kept h3 rfl hg (fun r e => (hr r e).2), mblk_kept (o := .cells #[.slice (some ⟨b, off, none⟩) gs.length gc] 22 (0, 0)) h4 rfl hg (fun r e => (hr r e).2), h5.grown hg h5.size (fun r e => Nat.le_trans hn0s (hr r e).1)⟩)
      (fun _ _ _ _ _ hs _ _ => hs)
      ⟨.slice none 0 0, bX0, World.ownsRow_nil _ _ _ _, bR0, bS0, hB0⟩
      (fun x a' W => ∃ Bx, W0.heap.size ≤ Bx ∧ W.heap[Bx]? = some (.cells (gtA (gs[x.1]'x.2)) 73 (0, 0)) ∧ a' = { tmps := #[.agg #[.string nm, .slice (some ⟨b, off, none⟩) gs.length gc], .pointer (some ⟨w.heap.size, 0, none⟩), .pointer (some ⟨w.heap.size + 1, 0, none⟩), .int .i64 0, .int .i64 0, .pointer (some ⟨X, 0, none⟩), undef, .pointer (some ⟨Bx, 0, none⟩), .agg #[.string nm, .slice (some ⟨b, off, none⟩) gs.length gc], .int .i64 0, .int .i64 0, .bool false, undef, undef, .pointer (some ⟨w.heap.size, 0, none⟩), .string nm, .agg #[.string nm, .slice none 0 0], .pointer (some ⟨w.heap.size, 1, none⟩), .slice (some ⟨b, off, none⟩) gs.length gc, .func (.func 67) #[] #[.pointer (some ⟨X + 1, 0, none⟩)], .int .i64 (x.1 : Nat), gtV (gs[x.1]'x.2), undef, undef, undef, undef, undef, undef, undef, undef, undef, undef, undef], defers := [] })
      (fun x a' _ A B row hs hg hr => by obtain ⟨Bx, h1, h2, h3⟩ := hs; exact ⟨Bx, h1, mblk_kept h2 rfl hg (fun r e => (hr r e).2), h3⟩)
      ?assign ?body ?done ?stop
    case seq =>
      intro l J Jx W hW hJ _ hY h0
      have hbW : W.heap[X + 1]? = W0.heap[X + 1]? := hW.block _ (by omega)
      refine (back1_in 3 (by omega) l (X + 1) w.heap.size (some ⟨b, off, none⟩) gc gs HLEN.out.2 (fun a e _ => by injection e with e; subst e; exact BW.out) J Jx hY W ((World.cell?_of_block (a := ⟨X + 1, 0, none⟩) hbW).trans HBS.out.cell) (HS0.out.grown (grown_below hW)) h0).mono ?_
      rintro e W' ⟨he, h | ⟨pre, _, hj⟩⟩
      · exact ⟨he, .inl h⟩
      · exact ⟨he, .inr ⟨pre, trivial, hj⟩⟩
    case kb =>
      intro W l o o' hlW ho hc hwk
      exact ⟨belowK_b (w := W0) (by omega) W l o o' hlW ho hc hwk, World.putObj_heap_other (by omega)⟩
    case assign =>
      rintro l pre x W K ⟨v, h1, h2, h3, h4, h5⟩ hK
      have hls := h4.lt
      unfold gtV at *
      gi_wp2
      refine hK _ _ ((KeepsOthers.alloc _ _).from _) ⟨(Below.refl _ W).alloc h5.size _, Below.heap_alloc _ _ _ hls⟩ ⟨v, mblock_at h1 (World.grownBy_alloc _ _ none) (by simp), h2.alloc _, mblock_at h3 (World.grownBy_alloc _ _ none) (by simp), h4.alloc _, h5.alloc h5.size _⟩ ⟨W.heap.size, by omega, World.alloc_heap_new W _, rfl⟩
    case body =>
      rintro l pre x a' W hlr ⟨r, hr⟩ ⟨v, h1, h2, h3, h4, h5⟩ ⟨Bx, hBx, bX, rfl⟩ hlt
      have hsn := prL_snoc pre x
      unfold gtV
      generalize gs[x.1]'x.2 = g at *
      obtain ⟨ax, ay, bx, by_⟩ := g
      unfold gtA at bX
      simp only at bX
      have HSN : Hid (gtRw (prL (pre ++ [x])) = gtRw (prL pre) ++ [.int .i64 bx, .int .i64 by_, .int .i64 ax, .int .i64 ay]) := by show _ = _; rw [hsn, gtRw_snoc]; rfl
      have c1 := mblock_cell h1 1 _ rfl
      have g0 := mblock_cell bX 0 _ rfl; have g1 := mblock_cell bX 1 _ rfl; have g2 := mblock_cell bX 2 _ rfl; have g3 := mblock_cell bX 3 _ rfl
      have H1 := Lib.hid h1; have H2 := Lib.hid h2; have H3 := Lib.hid h3; have H4 := Lib.hid h4; have H5 := Lib.hid h5; have BX := Lib.hid bX
      have hrow : ∀ r, v.ownBlock = some r → W0.heap.size ≤ r := fun r e => (h2.lt r e).1
      have HROW := Lib.hid hrow
      have hW0 : W0.heap.size ≤ W.heap.size := Nat.le_trans hBx (Nat.le_of_lt (lt_of_block bX))
      have HW0 := Lib.hid hW0
      have HPL : Hid (pre.length < gs.length) := hlt
      have hi := HI0.out; have hz0 := HZ0.out; have hz1 := HZ1.out; have hz2 := HZ2.out
      clear h1 h2 h3 h4 h5 bX hsn hrow hW0 hlt hr hlr bX0 bR0 bS0 hB0
      gi_wp2_with (gi_at_builtin; go_loud (refine wpListIn_append_own _ rfl _ _ 22 rfl W0.heap.size 73 i0 (.agg #[.int .i64 0, .int .i64 0, .int .i64 0, .int .i64 0]) 4 32 Try.underlying22 hi hz0 hz1 hz2 rfl (by decide) v pre.length _ rfl (H2.out.alloc _) ⟨W.heap.size, 0, none⟩ 1 1 [.int .i64 bx, .int .i64 by_, .int .i64 ax, .int .i64 ay] rfl rfl (World.news_of_block (cs := #[.int .i64 bx, .int .i64 by_, .int .i64 ax, .int .i64 ay]) (t := 73) (fr := (0, 0)) (heap_alloc_new W _)) (by simp [Value.oneCell']) (by have := HPL.out; have := HLEN.out; unfold maxLen; omega) (by have := HPL.out; have := HLEN.out; omega) (by have := HW0.out; simp; omega) ?_); intro v' w8 hown' hgrow' _; obtain ⟨g', cap', rfl⟩ := ownsRow_succ hown'; have H8 := Lib.hid (mblock_at (mblock_at H1.out (World.grownBy_alloc W (.cells #[.int .i64 bx, .int .i64 by_, .int .i64 ax, .int .i64 ay] 73) none) (by simp)) hgrow' (fun e => by have := HROW.out X e.symm; have := HSZ.out; omega)); have x8 := mblock_cell H8.out 1 _ rfl; have f8 := mblock_free (k := 1) H8.out)
      obtain ⟨Wz, hWz⟩ : ∃ V, w8.setCell ⟨X, 1, none⟩ (.slice (some ⟨g', 0, none⟩) (pre.length + 1) cap') = V := ⟨_, rfl⟩
      have gA := World.grownBy_alloc W (.cells #[.int .i64 bx, .int .i64 by_, .int .i64 ax, .int .i64 ay] 73) none
      have rX : ∀ b, b < W0.heap.size → some b ≠ v.ownBlock := fun b hb e => by have := HROW.out b e.symm; omega
      have k3 : Wz.heap[w.heap.size + 1]? = some (.cells #[.string ⟨#[]⟩, .slice none 0 0] 24 (0, 0)) := by
        rw [← hWz]; exact mblock_far (mblock_at (mblock_at H3.out gA (by simp)) hgrow' (rX _ (by have := HSZ.out; have := HXW.out; omega))) (by have := HXW.out; omega) _ _
      have k4 : Boxed Wz (X + 1) 22 (.slice (some ⟨b, off, none⟩) gs.length gc) := by
        rw [← hWz]; exact mblock_far (mblock_at (mblock_at (o := .cells #[.slice (some ⟨b, off, none⟩) gs.length gc] 22 (0, 0)) H4.out gA (by simp)) hgrow' (rX _ (by have := HSZ.out; omega))) (by omega) _ _
      have k1 : Wz.heap[X]? = some (.cells #[.string nm, .slice (some ⟨g', 0, none⟩) (pre.length + 1) cap'] 24 (0, 0)) := by
        rw [← hWz]; exact mblock_set (k := 1) H8.out _
      have k2 : Wz.ownsRow W0.heap.size 73 4 (.slice (some ⟨g', 0, none⟩) (pre.length + 1) cap') (pre.length + 1) (gtRw (prL (pre ++ [x]))) := by
        rw [← hWz, HSN.out]; exact mown_setR hown' (by have := HSZ.out; omega) 1 _
      have k5 : Below w.heap.size w Wz := by
        rw [← hWz]
        have hsW := H5.out.size
        exact ((H5.out.alloc hsW _).grown hgrow' (by simp; omega) (fun r e => by have := HROW.out r e; have := HSZ.out; have := HXW.out; omega)).setCell (by show _ ≤ X; have := HXW.out; omega) _
      have k6 : Below w.heap.size W Wz := by
        rw [← hWz]
        have hsW := H5.out.size
        exact (((Below.refl _ W).alloc hsW _).grown hgrow' (by simp; omega) (fun r e => by have := HROW.out r e; have := HSZ.out; have := HXW.out; omega)).setCell (by show _ ≤ X; have := HXW.out; omega) _
      have k7 : KeepsOthers W Wz := by
        rw [← hWz]
        refine ((KeepsOthers.alloc _ _).trans (KeepsOthers.of_grownBy hgrow' (fun j o e ho => ?_))).trans (KeepsOthers.setCell _ _ _)
        rcases (H2.out.alloc _).2 with ⟨hv, _⟩ | ⟨g', cap, cur, hv, hb, hgg, _⟩
        · rw [hv] at e; cases e
        · have : g' = j := by rw [hv] at e; simpa [Value.ownBlock] using e
          subst this
          rw [hgg] at ho; cases ho; rfl
      try rw [hWz]
      clear hown' hgrow' x8 f8 hWz gA
      refine ⟨k7.from _, ⟨k6, k4.trans H4.out.symm⟩, _, k1, ?_, k3, k4, k5⟩
      rw [List.length_append]; exact k2
    case done =>
      rintro D ys W hD hS ⟨v, h1, h2, h3, h4, h5⟩ hK
      have hys : ys.length = gs.length := by have := congrArg List.length hS; rw [bwd_len] at this; simpa using this
      rw [prL_all hS, hys, ← turnG_len gs] at h2
      obtain ⟨ao, cp, hvv, _⟩ := own_rows (cs := gtCs) (fun _ => rfl) h2
      subst hvv
      have x0 := mblock_cell h1 0 _ rfl; have x1 := mblock_cell h1 1 _ rfl
      have z0 := mblock_cell h3 0 _ rfl; have z1 := mblock_cell h3 1 _ rfl
      have f0 := mblock_free (k := 0) h3; have f1 := mblock_free (k := 1) h3
      have H2 := Lib.hid h2; have H3 := Lib.hid h3; have H5 := Lib.hid h5; have HK := Lib.hid hK; have HD := Lib.hid hD
      clear h1 h2 h3 h4 h5 hS hys bX0 bR0 bS0 hB0
      gi_wp2
      obtain ⟨W1, hW1⟩ : ∃ W1, (W.setCell ⟨w.heap.size + 1, 0, none⟩ (.string nm)).setCell ⟨w.heap.size + 1, 1, none⟩ (.slice ao (turnG gs).length cp) = W1 := ⟨_, rfl⟩
      have hR : W1.heap[w.heap.size + 1]? = some (.cells #[.string nm, .slice ao (turnG gs).length cp] 24 (0, 0)) := by
        rw [← hW1]; exact mblock_set (k := 1) (mblock_set (k := 0) H3.out (.string nm)) (.slice ao (turnG gs).length cp)
      have hkd : W1.heap[D]? = some (.deferred (some [])) := by
        have hd := HD.out
        rw [← hW1, Below.heap_setCell _ _ _ _ (by show D ≠ w.heap.size + 1; omega), Below.heap_setCell _ _ _ _ (by show D ≠ w.heap.size + 1; omega)]; exact HK.out
      have ho : W1.ownsRow W0.heap.size 73 4 (.slice ao (turnG gs).length cp) (turnG gs).length (gtRw (turnG gs)) := by
        rw [← hW1]; exact mown_setR (mown_setR H2.out (by omega) 0 _) (by omega) 1 _
      have hg : Below w.heap.size w W1 := by
        rw [← hW1]; exact (H5.out.setCell (by show _ ≤ w.heap.size + 1; omega) _).setCell (by show _ ≤ w.heap.size + 1; omega) _
      try rw [hW1]
      have hd := HD.out
      refine ⟨by simp, .inl ⟨_, _, rfl, run_takeDeferred hkd, ?_⟩⟩
      have z4 : ∀ o, (W1.putObj D o).cell? ⟨w.heap.size + 1, 0, none⟩ = some (.string nm) := fun o => by
        have : (W1.putObj D o).heap[w.heap.size + 1]? = _ := (World.putObj_heap_other (by omega)).trans hR
        simp [World.cell?, this]
      have z5 : ∀ o, (W1.putObj D o).cell? ⟨w.heap.size + 1, 1, none⟩ = some (.slice ao (turnG gs).length cp) := fun o => by
        have : (W1.putObj D o).heap[w.heap.size + 1]? = _ := (World.putObj_heap_other (by omega)).trans hR
        simp [World.cell?, this]
      refine ⟨.tuple #[.agg #[.string nm, .slice ao (turnG gs).length cp], .int .i64 0], ?_, ⟨⟨ao, cp, by rw [← HLL.out], ?_⟩, grown_below (hg.trans (belowK_b (w := w) (Nat.le_refl _) W1 D _ _ (by omega) hkd rfl rfl))⟩⟩
      · simp [results, Try.results9, go_sem, z4, z5]
      · rw [← HLL.out]
        obtain ⟨ao2, cp2, hvv, _, hr, _⟩ := own_rows (cs := gtCs) (fun _ => rfl) (ownsRow_putObj ho _ hkd rfl)
        injection hvv with e1 _ _
        subst e1
        exact hr
    case stop =>
      rintro D c pre W _ _ h _
      exact h.elim
  · rw [if_neg h0] at hN hL
    subst hN; subst hL
    have hne : (E != 0) = true := by simpa using h0
    clear h0 hs
    go_enter Try.func9, Try.ntmps9
    go_wp2_with fail
    generalize ((w.alloc (.cells #[.string nm, .slice go_ gs.length gc] 24)).alloc (.cells #[.string ⟨#[]⟩, .slice none 0 0] 24)) = w0 at *
    refine (checkSeg_is ⟨nm, go_, gc, gs⟩ _ (HS.out.grown G0.out) hE).mono ?_; rintro e w1 ⟨rfl, hg1⟩
    have G1 := Lib.hid (grown_trans G0.out hg1)
    have BR1 := Lib.hid (mblock_at BR.out hg1 (by simp))
    have z0 := mblock_cell BR1.out 0 _ rfl; have z1 := mblock_cell BR1.out 1 _ rfl
    have f0 := mblock_free (k := 0) BR1.out; have f1 := mblock_free (k := 1) BR1.out
    clear hg1 BA BR G0
    go_wp2_with fail
    have bz := mblock_set (k := 1) (mblock_set (k := 0) BR1.out (.string ⟨#[]⟩)) (.slice none 0 0)
    have gz := mgrown_set (mgrown_set G1.out (show w.heap.size ≤ w.heap.size + 1 by omega) 0 (.string ⟨#[]⟩)) (show w.heap.size ≤ w.heap.size + 1 by omega) 1 (.slice none 0 0)
    have y0 := mblock_cell bz 0 (.string ⟨#[]⟩) rfl; have y1 := mblock_cell bz 1 (.slice none 0 0) rfl
    generalize ((w1.setCell ⟨w.heap.size + 1, 0, none⟩ (.string ⟨#[]⟩)).setCell ⟨w.heap.size + 1, 1, none⟩ (.slice none 0 0)) = w9 at *
    refine bodyPost_ret (v := .tuple #[.agg #[.string ⟨#[]⟩, .slice none 0 0], .int .i64 E]) (by simp [results, Try.results9, go_sem, y0, y1]) rfl ⟨⟨none, 0, rfl, ⟨fun _ => rfl, fun _ _ h => absurd rfl h, fun _ _ _ h => absurd h (Nat.not_lt_zero _)⟩⟩, gz⟩
end Go.Proofs.Ytnjanjbjhbniiaa
