/- The contract of best: the best window of a size. -/
import Derived.Test.YtfeefijaahjheaaEWin
namespace Go.Proofs.Ytfeefijaahjheaa
open Go.RowKit Go.Shelf
set_option linter.unusedSimpArgs false
set_option linter.unusedVariables false

attribute [local go_sem] Oper.semAt_some

abbrev BSt.cells (b : BSt) (sz : Int) : Array Value := #[.int .i64 sz, .int .i64 b.sum, .int .i64 b.at_, .bool b.found]
def betB (a b : BSt) : Bool := a.found && (!b.found || decide (b.sum < a.sum))

set_option maxHeartbeats 800000 in
theorem isBetter_is (s t : Int) (a b : BSt) (w : World) {q : Bool} (hq : Hid (betB a b = q)) :
    Calls Try.prog 64 #[.agg (a.cells s), .agg (b.cells t)] w fun e w' => e = .returned (.bool q) ∧ w.grownBy w' none := by
  obtain ⟨as_, aa, af⟩ := a
  obtain ⟨bs, ba, bf⟩ := b
  have hv := hq.out
  unfold betB at hv
  simp only at hv
  have G : w.grownBy ((w.alloc (.cells #[.int .i64 s, .int .i64 as_, .int .i64 aa, .bool af] 24)).alloc (.cells #[.int .i64 t, .int .i64 bs, .int .i64 ba, .bool bf] 24)) none := grown_trans (World.grownBy_alloc _ _ _) (World.grownBy_alloc _ _ _)
  clear hq
  cases af
  · simp only [Bool.false_and] at hv
    subst hv
    go_enter Try.func64, Try.ntmps64
    go_wp2
    go_ret
    exact ⟨rfl, G⟩
  · cases bf
    · simp only [Bool.not_false, Bool.true_or, Bool.and_self] at hv
      subst hv
      go_enter Try.func64, Try.ntmps64
      go_wp2
      go_ret
      exact ⟨rfl, G⟩
    · simp only [Bool.not_true, Bool.false_or, Bool.true_and] at hv
      subst hv
      go_enter Try.func64, Try.ntmps64
      go_wp2
      go_ret
      exact ⟨rfl, G⟩

theorem eblock_kept {W W' : World} {row : Option Nat} {B : Nat} {o : Obj} (h : W.heap[B]? = some o) (hc : o.isCells = true) (hg : W.grownBy W' row) (hrow : ∀ r, row = some r → ∃ o : Obj, W.heap[r]? = some o ∧ o.isCells = false) : W'.heap[B]? = some o :=
  (hg.block B (Array.getElem?_eq_some_iff.1 h).1 (fun e => by
    obtain ⟨o', ho, hc'⟩ := hrow B e.symm
    rw [h] at ho; cases ho; rw [hc] at hc'; cases hc')).trans h

/-- The memory of best: the size, the result, the best window so far, and what the iterator reads. -/
structure BkS (w : World) (v : Value) (sz : Nat) (b : BSt) (W : World) : Prop where
  z : W.heap[w.heap.size]? = some (.cells #[.int .i64 sz] 3 (0, 0))
  r : W.heap[w.heap.size + 1]? = some (.cells #[.int .i64 0, .int .i64 0, .int .i64 0, .bool false] 24 (0, 0))
  m : W.heap[w.heap.size + 2]? = some (.cells (b.cells sz) 24 (0, 0))
  l : W.heap[w.heap.size + 3]? = some (.cells #[v] 22 (0, 0))
  i : W.heap[w.heap.size + 4]? = some (.cells #[.int .i64 sz] 3 (0, 0))
  g : Below w.heap.size w W
def foldB (l : List Int) (sz : Nat) (pre : List (WinNo l sz)) : BSt := (pre.map (·.1)).foldl BSt.next ⟨0, 0, false⟩
theorem foldB_snoc (l : List Int) (sz : Nat) (pre : List (WinNo l sz)) (x : WinNo l sz) : foldB l sz (pre ++ [x]) = (foldB l sz pre).next x.1 := by simp [foldB]
theorem next_bet (b : BSt) (a : Nat) (s : Int) : b.next (a, s) = if betB ⟨s, a, true⟩ b = true then ⟨s, a, true⟩ else b := by
  unfold BSt.next betB
  by_cases h : b.found = false ∨ b.sum < s
  · rw [if_pos h, if_pos (by simp; exact h)]
  · rw [if_neg h, if_neg (by simp; exact not_or.1 h |>.imp (by simp) (by omega))]
theorem BkS.set {w : World} {v : Value} {sz : Nat} {b : BSt} {W : World} (h : BkS w v sz b W) (c : BSt) : BkS w v sz c ((((W.setCell ⟨w.heap.size + 1 + 1, 0, none⟩ (.int .i64 sz)).setCell ⟨w.heap.size + 1 + 1, 1, none⟩ (.int .i64 c.sum)).setCell ⟨w.heap.size + 1 + 1, 2, none⟩ (.int .i64 c.at_)).setCell ⟨w.heap.size + 1 + 1, 3, none⟩ (.bool c.found)) := by
  have k : ∀ {B : Nat} {o : Obj}, B ≠ w.heap.size + 1 + 1 → W.heap[B]? = some o → ((((W.setCell ⟨w.heap.size + 1 + 1, 0, none⟩ (.int .i64 sz)).setCell ⟨w.heap.size + 1 + 1, 1, none⟩ (.int .i64 c.sum)).setCell ⟨w.heap.size + 1 + 1, 2, none⟩ (.int .i64 c.at_)).setCell ⟨w.heap.size + 1 + 1, 3, none⟩ (.bool c.found)).heap[B]? = some o := fun {B o} hne h => by
    rw [Below.heap_setCell _ _ _ _ hne, Below.heap_setCell _ _ _ _ hne, Below.heap_setCell _ _ _ _ hne, Below.heap_setCell _ _ _ _ hne]; exact h
  have hm := h.m
  refine ⟨k (by omega) h.z, k (by omega) h.r, ?_, k (by omega) h.l, k (by omega) h.i, (((h.g.setCell (by show _ ≤ w.heap.size + 1 + 1; omega) _).setCell (by show _ ≤ w.heap.size + 1 + 1; omega) _).setCell (by show _ ≤ w.heap.size + 1 + 1; omega) _).setCell (by show _ ≤ w.heap.size + 1 + 1; omega) _⟩
  rw [show w.heap.size + 2 = w.heap.size + 1 + 1 from rfl] at hm ⊢
  simp [World.setCell, Array.getElem?_modify, hm]
theorem foldB_bd (l : List Int) (sz : Nat) : ∀ (pre : List (WinNo l sz)) (b : BSt), 0 ≤ b.sum ∧ b.sum ≤ 1000000000000000 → 0 ≤ ((pre.map (·.1)).foldl BSt.next b).sum ∧ ((pre.map (·.1)).foldl BSt.next b).sum ≤ 1000000000000000
  | [], b, h => h
  | x :: r, b, h => by
    refine foldB_bd l sz r (b.next x.1) ?_
    unfold BSt.next
    split
    · exact x.2.2.1
    · exact h
theorem bks_own {w : World} {v : Value} {sz : Nat} {l : List Int} {B : Nat} (hB : w.heap.size ≤ B) : OwnFrom B (fun (pre : List (WinNo l sz)) W => BkS w v sz (foldB l sz pre) W) :=
  fun s W W' row hs hg hr => by
    have hr2 : ∀ r, row = some r → ∃ o : Obj, W.heap[r]? = some o ∧ o.isCells = false := fun r e => (hr r e).2
    exact ⟨eblock_kept hs.z rfl hg hr2, eblock_kept hs.r rfl hg hr2, eblock_kept hs.m rfl hg hr2, eblock_kept hs.l rfl hg hr2, eblock_kept hs.i rfl hg hr2, hs.g.grown hg hs.g.size (fun k e => Nat.le_trans hB (hr k e).1)⟩
theorem BkS.grown {w : World} {v : Value} {sz : Nat} {b : BSt} {W W' : World} (h : BkS w v sz b W) (hg : W.grownBy W' none) : BkS w v sz b W' := by
  have k : ∀ {B : Nat} {o : Obj}, W.heap[B]? = some o → W'.heap[B]? = some o := fun {B o} h => (hg.block B (Array.getElem?_eq_some_iff.1 h).1 (by simp)).trans h
  exact ⟨k h.z, k h.r, k h.m, k h.l, k h.i, h.g.grown hg h.g.size (fun k e => by cases e)⟩

set_option maxRecDepth 100000 in
set_option maxHeartbeats 4000000 in
theorem best_any (ao : Option Addr) (cap : Nat) (ls : List Int) (hl : (ls.length : Int) ≤ 1000000) (hv : ∀ k, k < ls.length → -1 ≤ nthI ls k ∧ nthI ls k ≤ 1000000000) (sz : Nat) (h1 : 1 ≤ sz) (h2 : sz ≤ 1000000) (w : World) (hs : IntsAt w ao ls) (hao : ∀ a, ao = some a → ls ≠ [] → a.block < w.heap.size) {b : BSt} (hb : Hid (bestL ls sz = b)) :
    Calls Try.prog 49 #[.slice ao ls.length cap, .int .i64 sz] w fun e w' => e = .returned (.agg (b.cells sz)) ∧ Below w.heap.size w w' := by
  have hll : ls.length ≤ 1000000 := by omega
  have HS := Lib.hid hs; have HAO := Lib.hid hao; have HV := Lib.hid hv
  clear hs hao hv
  refine (callsIn_wide (n := 4)).1 ?_
  refine callsIn_of_wp_marks Try.func49 rfl trivial ?_ rfl
  simp only [Try.ntmps49, List.size_toArray, List.length_cons, List.length_nil, Nat.reduceAdd, Nat.reduceSub, Array.replicate_succ, Array.replicate_zero, List.push_toArray, List.append_toArray, List.nil_append, List.cons_append]
  gi_wp2_with (refine ⟨trivial, ?_⟩; gi_at_call 55; refine (callsIn_wide.2 (windows_any _ _ _ _ _)).mono ?_; rintro e w' ⟨rfl, rfl⟩)
  obtain ⟨W0, hW0⟩ : ∃ W0, (((((w.alloc (.cells #[.int .i64 sz] 3)).alloc (.cells #[.int .i64 0, .int .i64 0, .int .i64 0, .bool false] 24)).alloc (.cells #[.int .i64 sz, .int .i64 0, .int .i64 0, .bool false] 24)).alloc (.cells #[.slice ao ls.length cap] 22)).alloc (.cells #[.int .i64 sz] 3)) = W0 := ⟨_, rfl⟩
  have hB0 : Below w.heap.size w W0 := by
    rw [← hW0]; exact (((((Below.refl _ w).alloc (Nat.le_refl _) _).alloc (by simp) _).alloc (by simp <;> omega) _).alloc (by simp <;> omega) _).alloc (by simp <;> omega) _
  have hsz : W0.heap.size = w.heap.size + 5 := by rw [← hW0]; simp
  have hJ0 : BkS w (.slice ao ls.length cap) sz (foldB ls sz []) W0 := by
    subst hW0
    refine ⟨?_, ?_, ?_, ?_, ?_, hB0⟩
    · rw [Below.heap_alloc _ _ _ (by simp <;> omega), Below.heap_alloc _ _ _ (by simp <;> omega), Below.heap_alloc _ _ _ (by simp <;> omega), Below.heap_alloc _ _ _ (by simp)]; exact heap_alloc_new _ _
    · rw [Below.heap_alloc _ _ _ (by simp <;> omega), Below.heap_alloc _ _ _ (by simp <;> omega), Below.heap_alloc _ _ _ (by simp)]
      have q := heap_alloc_new (w.alloc (.cells #[.int .i64 sz] 3)) (.cells #[.int .i64 0, .int .i64 0, .int .i64 0, .bool false] 24)
      simpa using q
    · rw [Below.heap_alloc _ _ _ (by simp <;> omega), Below.heap_alloc _ _ _ (by simp)]
      have q := heap_alloc_new ((w.alloc (.cells #[.int .i64 sz] 3)).alloc (.cells #[.int .i64 0, .int .i64 0, .int .i64 0, .bool false] 24)) (.cells #[.int .i64 sz, .int .i64 0, .int .i64 0, .bool false] 24)
      simpa [foldB] using q
    · rw [Below.heap_alloc _ _ _ (by simp)]
      have q := heap_alloc_new (((w.alloc (.cells #[.int .i64 sz] 3)).alloc (.cells #[.int .i64 0, .int .i64 0, .int .i64 0, .bool false] 24)).alloc (.cells #[.int .i64 sz, .int .i64 0, .int .i64 0, .bool false] 24)) (.cells #[.slice ao ls.length cap] 22)
      simpa using q
    · have q := heap_alloc_new ((((w.alloc (.cells #[.int .i64 sz] 3)).alloc (.cells #[.int .i64 0, .int .i64 0, .int .i64 0, .bool false] 24)).alloc (.cells #[.int .i64 sz, .int .i64 0, .int .i64 0, .bool false] 24)).alloc (.cells #[.slice ao ls.length cap] 22)) (.cells #[.int .i64 sz] 3)
      simpa using q
  have hs0 : IntsAt W0 ao ls := HS.out.grown (grown_below hB0)
  rw [hW0]
  clear hW0
  refine wpIn_rangeFunc_ownH (α := WinNo ls sz) rfl (by omega) (gf := 81) (lb := #[.pointer (some ⟨w.heap.size + 3, 0, none⟩), .pointer (some ⟨w.heap.size + 4, 0, none⟩)]) rfl trivial (enters_of Try.func81 (by kernel_rfl) rfl)
    (encs := fun x => #[.int .i64 x.1.1, .int .i64 x.1.2]) (Kp := KpE w.heap.size (w.heap.size + 3) (w.heap.size + 4)) (S := fun ys => ys.map (·.1) = wins ls sz ls.length) (Sp := fun _ => True) (N := ls.length) (w0 := W0) ?seq kpE_t ?kb (Below.refl _ _) (fun _ => rfl)
    (fun pre W => BkS w (.slice ao ls.length cap) sz (foldB ls sz pre) W)
    (fun _ _ _ => False)
    (bks_own (by omega))
    (fun _ _ _ _ _ hs _ _ => hs)
    hJ0
    (fun x a' _ => a' = { tmps := #[.slice ao ls.length cap, .int .i64 sz, undef, .pointer (some ⟨w.heap.size, 0, none⟩), .pointer (some ⟨w.heap.size + 1, 0, none⟩), .pointer (some ⟨w.heap.size + 1 + 1, 0, none⟩), .int .i64 x.1.1, .int .i64 x.1.2, undef, .int .i64 sz, .agg #[.int .i64 sz, .int .i64 0, .int .i64 0, .bool false], .slice ao ls.length cap, .int .i64 sz, .func (.func 81) #[] #[.pointer (some ⟨w.heap.size + 1 + 1 + 1, 0, none⟩), .pointer (some ⟨w.heap.size + 1 + 1 + 1 + 1, 0, none⟩)], .int .i64 x.1.1, .int .i64 x.1.2, undef, undef, undef, undef, undef, undef, undef, undef, undef], defers := [] })
    (fun x a' _ X Y row hs hg hr => hs)
    ?assign ?body ?done ?stop
  case seq =>
    intro l J Jx W hW hJ _ hY h0
    have hb3 : W.heap[w.heap.size + 3]? = W0.heap[w.heap.size + 3]? := hW.block _ (by omega)
    have hb4 : W.heap[w.heap.size + 4]? = W0.heap[w.heap.size + 4]? := hW.block _ (by omega)
    refine (windows1_in 3 (by omega) l (w.heap.size + 3) (w.heap.size + 4) w.heap.size ao cap ls hl HV.out HAO.out sz h1 h2 J Jx (fun pre V m hj => hJ pre V _ none hj (grown_drewN V none m) (fun r h => by cases h)) hY W ?_ ?_ (hs0.grown (grown_below hW)) h0).mono ?_
    · have := hb3.trans hJ0.l; simp [World.cell?, this]
    · have := hb4.trans hJ0.i; simp [World.cell?, this]
    rintro e W' ⟨he, h | ⟨pre, _, hj⟩⟩
    · exact ⟨he, .inl h⟩
    · exact ⟨he, .inr ⟨pre, trivial, hj⟩⟩
  case kb =>
    intro W l o o' hlW ho hc hwk
    exact ⟨belowK_b (w := W0) (by omega) W l o o' hlW ho hc hwk, World.putObj_heap_other (by omega), World.putObj_heap_other (by omega)⟩
  case assign =>
    rintro l pre x W K hI hK
    gi_wp2
    exact hK _ _ ((KeepsOthers.refl _).from _) ⟨Below.refl _ W, rfl, rfl⟩ hI rfl
  case body =>
    rintro l pre x a' W hlr ⟨r, hr⟩ hI rfl hlt
    obtain ⟨b0, hb0⟩ : ∃ b0, foldB ls sz pre = b0 := ⟨_, rfl⟩
    have hbd := foldB_bd ls sz pre ⟨0, 0, false⟩ ⟨by simp, by simp⟩
    rw [show (pre.map (·.1)).foldl BSt.next ⟨0, 0, false⟩ = foldB ls sz pre from rfl, hb0] at hbd
    have hfold : foldB ls sz (pre ++ [x]) = b0.next x.1 := by rw [foldB_snoc, hb0]
    rw [hb0] at hI
    obtain ⟨⟨xa, xs⟩, hx⟩ := x
    simp only at hx hfold ⊢
    have HI := Lib.hid hI; have HR := Lib.hid hr; have HFD := Lib.hid hfold
    clear hI hr hfold hb0
    have cz : W.cell? ⟨w.heap.size, 0, none⟩ = some (.int .i64 sz) := by have := HI.out.z; simp [World.cell?, this]
    have m0 : W.cell? ⟨w.heap.size + 1 + 1, 0, none⟩ = some (.int .i64 sz) := by have := HI.out.m; simp [World.cell?, this]
    have m1 : W.cell? ⟨w.heap.size + 1 + 1, 1, none⟩ = some (.int .i64 b0.sum) := by have := HI.out.m; simp [World.cell?, this]
    have m2 : W.cell? ⟨w.heap.size + 1 + 1, 2, none⟩ = some (.int .i64 b0.at_) := by have := HI.out.m; simp [World.cell?, this]
    have m3 : W.cell? ⟨w.heap.size + 1 + 1, 3, none⟩ = some (.bool b0.found) := by have := HI.out.m; simp [World.cell?, this]
    obtain ⟨bs, ba, bf⟩ := b0
    simp only at m0 m1 m2 m3 hbd
    obtain ⟨q, hq⟩ : ∃ q, betB ⟨xs, xa, true⟩ ⟨bs, ba, bf⟩ = q := ⟨_, rfl⟩
    have HQ := Lib.hid hq
    have GX := World.grownBy_alloc W (.cells #[.int .i64 sz, .int .i64 xs, .int .i64 xa, .bool true] 24) none
    have hmW : w.heap.size + 1 + 1 < W.heap.size := by have := (Array.getElem?_eq_some_iff.1 HI.out.m).1; omega
    clear hq
    gi_wp2
    refine ⟨trivial, CallsIn.inRound l (callsIn_wide.2 ((isBetter_is _ _ ⟨xs, xa, true⟩ ⟨bs, ba, bf⟩ _ HQ).mono ?_))⟩
    rintro e w1 ⟨rfl, hg1⟩
    have HNX := next_bet ⟨bs, ba, bf⟩ xa xs
    rw [HQ.out] at HNX
    have HG := Lib.hid (grown_trans GX hg1)
    have x0 : w1.cell? ⟨W.heap.size, 0, none⟩ = some (.int .i64 sz) := grown_cell hg1 (by go_simp)
    have x1 : w1.cell? ⟨W.heap.size, 1, none⟩ = some (.int .i64 xs) := grown_cell hg1 (by go_simp)
    have x2 : w1.cell? ⟨W.heap.size, 2, none⟩ = some (.int .i64 xa) := grown_cell hg1 (by go_simp)
    have x3 : w1.cell? ⟨W.heap.size, 3, none⟩ = some (.bool true) := grown_cell hg1 (by go_simp)
    have HI1 := Lib.hid (HI.out.grown HG.out)
    have f0 : ∀ i, w1.frozen? ⟨w.heap.size + 1 + 1, i, none⟩ = false := fun i => by have := HI1.out.m; simp [World.frozen?, this]
    have y0 := f0 0; have y1 := f0 1; have y2 := f0 2; have y3 := f0 3
    replace m0 := grown_cell HG.out m0; replace m1 := grown_cell HG.out m1; replace m2 := grown_cell HG.out m2; replace m3 := grown_cell HG.out m3
    clear hg1 GX f0
    have hKO : KeepsOthers W w1 := KeepsOthers.of_grownBy HG.out (fun j o e => by cases e)
    have HKP : KpE w.heap.size (w.heap.size + 3) (w.heap.size + 4) W w1 := ⟨(Below.refl _ W).grown HG.out HI.out.g.size (fun k e => by cases e), HG.out.block _ (Array.getElem?_eq_some_iff.1 HI.out.l).1 (by simp), HG.out.block _ (Array.getElem?_eq_some_iff.1 HI.out.i).1 (by simp)⟩
    cases q
    · rw [if_neg (by simp)] at HNX
      gi_wp2
      exact ⟨hKO.from _, HKP, by show BkS _ _ _ (foldB ls sz (pre ++ [_])) _; rw [HFD.out, HNX]; exact HI1.out⟩
    · rw [if_pos rfl] at HNX
      gi_wp2
      have hs4 : ∀ i, i ≠ w.heap.size + 1 + 1 → ((((w1.setCell ⟨w.heap.size + 1 + 1, 0, none⟩ (.int .i64 sz)).setCell ⟨w.heap.size + 1 + 1, 1, none⟩ (.int .i64 xs)).setCell ⟨w.heap.size + 1 + 1, 2, none⟩ (.int .i64 xa)).setCell ⟨w.heap.size + 1 + 1, 3, none⟩ (.bool true)).heap[i]? = w1.heap[i]? := fun i hne => by
        rw [Below.heap_setCell _ _ _ _ hne, Below.heap_setCell _ _ _ _ hne, Below.heap_setCell _ _ _ _ hne, Below.heap_setCell _ _ _ _ hne]
      refine ⟨((((hKO.trans (KeepsOthers.setCell _ _ _)).trans (KeepsOthers.setCell _ _ _)).trans (KeepsOthers.setCell _ _ _)).trans (KeepsOthers.setCell _ _ _)).from _, ⟨(((HKP.1.setCell (by show _ ≤ w.heap.size + 1 + 1; omega) _).setCell (by show _ ≤ w.heap.size + 1 + 1; omega) _).setCell (by show _ ≤ w.heap.size + 1 + 1; omega) _).setCell (by show _ ≤ w.heap.size + 1 + 1; omega) _, (hs4 _ (by omega)).trans HKP.2.1, (hs4 _ (by omega)).trans HKP.2.2⟩, ?_⟩
      show BkS _ _ _ (foldB ls sz (pre ++ [_])) _
      rw [HFD.out, HNX]
      exact HI1.out.set ⟨xs, xa, true⟩
  case done =>
    rintro D ys W hD hS hI hK
    have hfin : foldB ls sz ys = b := by rw [← hb.out]; unfold foldB bestL; rw [hS]
    rw [hfin] at hI
    have HI := Lib.hid hI; have HK := Lib.hid hK
    obtain ⟨bs, ba, bf⟩ := b
    have m0 : W.cell? ⟨w.heap.size + 1 + 1, 0, none⟩ = some (.int .i64 sz) := by have := HI.out.m; simp [World.cell?, this]
    have m1 : W.cell? ⟨w.heap.size + 1 + 1, 1, none⟩ = some (.int .i64 bs) := by have := HI.out.m; simp [World.cell?, this]
    have m2 : W.cell? ⟨w.heap.size + 1 + 1, 2, none⟩ = some (.int .i64 ba) := by have := HI.out.m; simp [World.cell?, this]
    have m3 : W.cell? ⟨w.heap.size + 1 + 1, 3, none⟩ = some (.bool bf) := by have := HI.out.m; simp [World.cell?, this]
    have f0 : ∀ i, W.frozen? ⟨w.heap.size + 1, i, none⟩ = false := fun i => by have := HI.out.r; simp [World.frozen?, this]
    have y0 := f0 0; have y1 := f0 1; have y2 := f0 2; have y3 := f0 3
    have r0 : W.cell? ⟨w.heap.size + 1, 0, none⟩ = some (.int .i64 0) := by have := HI.out.r; simp [World.cell?, this]
    have r1 : W.cell? ⟨w.heap.size + 1, 1, none⟩ = some (.int .i64 0) := by have := HI.out.r; simp [World.cell?, this]
    have r2 : W.cell? ⟨w.heap.size + 1, 2, none⟩ = some (.int .i64 0) := by have := HI.out.r; simp [World.cell?, this]
    have r3 : W.cell? ⟨w.heap.size + 1, 3, none⟩ = some (.bool false) := by have := HI.out.r; simp [World.cell?, this]
    clear hI hK hfin f0
    gi_wp2
    obtain ⟨W1, hW1⟩ : ∃ W1, ((((W.setCell ⟨w.heap.size + 1, 0, none⟩ (.int .i64 sz)).setCell ⟨w.heap.size + 1, 1, none⟩ (.int .i64 bs)).setCell ⟨w.heap.size + 1, 2, none⟩ (.int .i64 ba)).setCell ⟨w.heap.size + 1, 3, none⟩ (.bool bf)) = W1 := ⟨_, rfl⟩
    have hKD : W1.heap[D]? = some (.deferred (some [])) := by
      rw [← hW1, Below.heap_setCell _ _ _ _ (by show D ≠ w.heap.size + 1; omega), Below.heap_setCell _ _ _ _ (by show D ≠ w.heap.size + 1; omega), Below.heap_setCell _ _ _ _ (by show D ≠ w.heap.size + 1; omega), Below.heap_setCell _ _ _ _ (by show D ≠ w.heap.size + 1; omega)]; exact HK.out
    have hR1 : W1.heap[w.heap.size + 1]? = some (.cells #[.int .i64 sz, .int .i64 bs, .int .i64 ba, .bool bf] 24 (0, 0)) := by
      have := HI.out.r
      rw [← hW1]; simp [World.setCell, Array.getElem?_modify, this]
    have hg1 : Below w.heap.size w W1 := by
      rw [← hW1]; exact (((HI.out.g.setCell (by show _ ≤ w.heap.size + 1; omega) _).setCell (by show _ ≤ w.heap.size + 1; omega) _).setCell (by show _ ≤ w.heap.size + 1; omega) _).setCell (by show _ ≤ w.heap.size + 1; omega) _
    rw [hW1]
    clear hW1
    refine ⟨by simp, .inl ⟨_, _, rfl, run_takeDeferred hKD, ?_⟩⟩
    have hR2 : ∀ o, (W1.putObj D o).heap[w.heap.size + 1]? = some (.cells #[.int .i64 sz, .int .i64 bs, .int .i64 ba, .bool bf] 24 (0, 0)) := fun o => (World.putObj_heap_other (by omega)).trans hR1
    refine ⟨.agg #[.int .i64 sz, .int .i64 bs, .int .i64 ba, .bool bf], ?_, ⟨rfl, hg1.trans (belowK_b (w := w) (Nat.le_refl _) W1 D _ _ (by omega) hKD rfl rfl)⟩⟩
    have z0 : ∀ o, (W1.putObj D o).cell? ⟨w.heap.size + 1, 0, none⟩ = some (.int .i64 sz) := fun o => by simp [World.cell?, hR2 o]
    have z1 : ∀ o, (W1.putObj D o).cell? ⟨w.heap.size + 1, 1, none⟩ = some (.int .i64 bs) := fun o => by simp [World.cell?, hR2 o]
    have z2 : ∀ o, (W1.putObj D o).cell? ⟨w.heap.size + 1, 2, none⟩ = some (.int .i64 ba) := fun o => by simp [World.cell?, hR2 o]
    have z3 : ∀ o, (W1.putObj D o).cell? ⟨w.heap.size + 1, 3, none⟩ = some (.bool bf) := fun o => by simp [World.cell?, hR2 o]
    simp [results, Try.results49, go_sem, z0, z1, z2, z3]
  case stop =>
    rintro D c pre W _ _ h _
    exact h.elim

end Go.Proofs.Ytfeefijaahjheaa
