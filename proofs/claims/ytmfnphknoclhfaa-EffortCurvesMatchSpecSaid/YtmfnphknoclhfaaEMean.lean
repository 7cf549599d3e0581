/- The contract of Smooth. -/
import Derived.Test.YtmfnphknoclhfaaEMeanP
import Derived.Test.YtmfnphknoclhfaaETold
import Derived.Test.YtmfnphknoclhfaaFBridge
import Derived.Test.YtmfnphknoclhfaaFRow
import Derived.Test.YtmfnphknoclhfaaFSmooth
namespace Go.Proofs.Ytmfnphknoclhfaa
open Go.RowKit Go.Shelf

/-- What Smooth returns: how many means, and the error. -/
def smoothN (l : List Int) (size : Int) : Nat := if windowE l size = 0 then l.length else 0
attribute [local go_sem] Oper.semAt_some

theorem mblock_kept {W W' : World} {row : Option Nat} {B : Nat} {o : Obj} (h : W.heap[B]? = some o) (hc : o.isCells = true) (hg : W.grownBy W' row) (hrow : ∀ r, row = some r → ∃ o : Obj, W.heap[r]? = some o ∧ o.isCells = false) : W'.heap[B]? = some o :=
  (hg.block B (Array.getElem?_eq_some_iff.1 h).1 (fun e => by
    obtain ⟨o', ho, hc'⟩ := hrow B e.symm
    rw [h] at ho; cases ho; rw [hc] at hc'; cases hc')).trans h

theorem rowI_same {n : Nat} {F G : Nat → Int} (h : ∀ k, k < n → F k = G k) : rowI n F = rowI n G := by
  apply Array.ext
  · simp [rowI]
  · intro i h1 h2
    simp [rowI] at h1 ⊢
    exact h i h1

/-- The memory of Smooth: the size, the row of means, and where it lies. -/
structure MkA (w : World) (sz n : Nat) (F : Nat → Int) (W : World) : Prop where
  z : W.heap[w.heap.size]? = some (.cells #[.int .i64 sz] 3 (0, 0))
  r : RowF W (w.heap.size + 1) n F
  m : W.heap[w.heap.size + 1 + 1]? = some (.cells #[.slice (some ⟨w.heap.size + 1, 0, none⟩) n n] 22 (0, 0))
  g : Below w.heap.size w W
section
variable {w : World} {sz n : Nat} {F : Nat → Int} {W W' : World}
theorem MkA.cz (h : MkA w sz n F W) : W.cell? ⟨w.heap.size, 0, none⟩ = some (.int .i64 sz) := by simp [World.cell?, h.z]
theorem MkA.cm (h : MkA w sz n F W) : W.cell? ⟨w.heap.size + 1 + 1, 0, none⟩ = some (.slice (some ⟨w.heap.size + 1, 0, none⟩) n n) := by simp [World.cell?, h.m]
theorem MkA.grown (h : MkA w sz n F W) (hg : W.grownBy W' none) : MkA w sz n F W' := by
  have k : ∀ {B : Nat} {o : Obj}, W.heap[B]? = some o → W'.heap[B]? = some o := fun {B o} h => (hg.block B (Array.getElem?_eq_some_iff.1 h).1 (by simp)).trans h
  exact ⟨k h.z, h.r.grown hg, k h.m, h.g.grown hg h.g.size (fun k e => by cases e)⟩
theorem MkA.own (h : MkA w sz n F W) {row : Option Nat} {B : Nat} (hB : w.heap.size ≤ B) (hg : W.grownBy W' row) (hr : ∀ r, row = some r → B ≤ r ∧ ∃ o : Obj, W.heap[r]? = some o ∧ o.isCells = false) : MkA w sz n F W' := by
  have hr2 : ∀ r, row = some r → ∃ o : Obj, W.heap[r]? = some o ∧ o.isCells = false := fun r e => (hr r e).2
  exact ⟨mblock_kept h.z rfl hg hr2, ⟨mblock_kept h.r.1 rfl hg hr2⟩, mblock_kept h.m rfl hg hr2, h.g.grown hg h.g.size (fun k e => Nat.le_trans hB (hr k e).1)⟩
theorem MkA.set (h : MkA w sz n F W) (k : Nat) (v : Int) : MkA w sz n (upI F k v) (W.setCell ⟨w.heap.size + 1, k, none⟩ (.int .i64 v)) := by
  refine ⟨?_, h.r.set k v, ?_, h.g.setCell (by show _ ≤ w.heap.size + 1; omega) _⟩
  · rw [Below.heap_setCell _ _ _ _ (by show _ ≠ w.heap.size + 1; omega)]; exact h.z
  · rw [Below.heap_setCell _ _ _ _ (by show _ ≠ w.heap.size + 1; omega)]; exact h.m
end
/-- The same beside what the iterator reads. -/
structure MkS (w : World) (sz n : Nat) (B : Nat) (v : Value) (F : Nat → Int) (W : World) : Prop where
  a : MkA w sz n F W
  l : W.heap[B]? = some (.cells #[v] 22 (0, 0))
  i : W.heap[B + 1]? = some (.cells #[.int .i64 sz] 3 (0, 0))
theorem mks_own {w : World} {sz n B B0 : Nat} {v : Value} {l : List Int} (hB : w.heap.size ≤ B0) : OwnFrom B0 (fun (pre : List (WinNo l sz)) W => MkS w sz n B v (foldM l sz pre) W) :=
  fun s W W' row hs hg hr => by
    have hr2 : ∀ r, row = some r → ∃ o : Obj, W.heap[r]? = some o ∧ o.isCells = false := fun r e => (hr r e).2
    exact ⟨hs.a.own hB hg hr, mblock_kept hs.l rfl hg hr2, mblock_kept hs.i rfl hg hr2⟩

set_option maxRecDepth 100000 in
set_option maxHeartbeats 4000000 in
theorem mean_ok (ao : Option Addr) (cap : Nat) (ls : List Int) (hl : (ls.length : Int) ≤ 1000000) (hv : ∀ k, k < ls.length → -1 ≤ nthI ls k ∧ nthI ls k ≤ 1000000000) (sz : Nat) (h1 : 1 ≤ sz) (h2 : sz ≤ 1000000) (hWE : Hid (windowE ls sz = 0)) (w : World) (hs : IntsAt w ao ls) (hao : ∀ a, ao = some a → ls ≠ [] → a.block < w.heap.size) :
    Calls Try.prog 17 #[.slice ao ls.length cap, .int .i64 sz] w fun e w' => (e = .returned (.tuple #[.slice (some ⟨w.heap.size + 1, 0, none⟩) ls.length ls.length, .int .i64 0]) ∧ RowF w' (w.heap.size + 1) ls.length (smV ls sz)) ∧ Below w.heap.size w w' := by
  have hll : ls.length ≤ 1000000 := by omega
  have hmk := run_make_row' (P := Try.prog) 22 3 (.int .i64 0) 8 Try.underlying22 einfo_int rfl .i64 .i64 ls.length (by omega) (by omega)
  have HS := Lib.hid hs; have HAO := Lib.hid hao; have HV := Lib.hid hv
  clear hs hao hv
  refine (callsIn_wide (n := 4)).1 ?_
  refine callsIn_of_wp_marks Try.func17 rfl trivial ?_ rfl
  simp only [Try.ntmps17, List.size_toArray, List.length_cons, List.length_nil, Nat.reduceAdd, Nat.reduceSub, Array.replicate_succ, Array.replicate_zero, List.push_toArray, List.append_toArray, List.nil_append, List.cons_append]
  have HSA := Lib.hid (HS.out.grown (World.grownBy_alloc w (.cells #[.int .i64 sz] 3) none))
  gi_wp2_with (refine ⟨trivial, ?_⟩; gi_at_call 88; refine (callsIn_wide.2 (checkWindow_any ao cap ls (by omega) _ _ HSA.out hWE)).mono ?_; rintro e w' ⟨rfl, rfl⟩)
  have HM0 : Hid (MkA w sz ls.length (fun _ => 0) (((w.alloc (.cells #[.int .i64 sz] 3)).alloc (.cells (madeCells #[.int .i64 0] ls.length) 3)).alloc (.cells #[.slice (some ⟨w.heap.size + 1, 0, none⟩) ls.length ls.length] 22))) := by
    refine ⟨?_, ⟨?_⟩, ?_, ((((Below.refl _ w).alloc (Nat.le_refl _) _).alloc (by simp) _).alloc (by simp <;> omega) _)⟩
    · rw [Below.heap_alloc _ _ _ (by simp <;> omega), Below.heap_alloc _ _ _ (by simp)]; exact heap_alloc_new _ _
    · rw [Below.heap_alloc _ _ _ (by simp)]
      have q := heap_alloc_new (w.alloc (.cells #[.int .i64 sz] 3)) (.cells (madeCells #[.int .i64 0] ls.length) 3)
      rw [rowI_zero] at q ⊢
      simpa using q
    · have q := heap_alloc_new ((w.alloc (.cells #[.int .i64 sz] 3)).alloc (.cells (madeCells #[.int .i64 0] ls.length) 3)) (.cells #[.slice (some ⟨w.heap.size + 1, 0, none⟩) ls.length ls.length] 22)
      simpa using q
  gi_loopw [22] (fun iv wr => ∃ (k : Nat) (F : Nat → Int), k ≤ ls.length ∧ iv = .int .i64 k ∧ Hid (MkA w sz ls.length F wr) ∧ Hid (∀ j, j < k → F j = -1))
    (fun iv _ => ls.length - (intOf iv).toNat)
  case atStart => exact ⟨0, _, Nat.zero_le _, rfl, HM0.out, fun j hj => absurd hj (Nat.not_lt_zero _)⟩
  case round =>
    obtain ⟨k, F, hk, rfl, hm, hF⟩ := hrel
    have cz := hm.out.cz; have cm := hm.out.cm
    by_cases hlt : k < ls.length
    · have cr := hm.out.r.cell hlt
      have fr := hm.out.r.free k
      have HM1 : Hid (MkA w sz ls.length (upI F k (-1)) (wr.setCell ⟨w.heap.size + 1, k, none⟩ (.int .i64 (-1)))) := hm.out.set k (-1)
      have HF1 : Hid (∀ j, j < k + 1 → upI F k (-1) j = -1) := fun j hj => by
        unfold upI
        split
        · rfl
        · exact hF.out j (by omega)
      clear hm hF
      gi_wp2
      go_roundw
      case rel => exact ⟨k + 1, _, by omega, by go_num, HM1.out, HF1.out⟩
      case measure => simp [intOf]; omega
    · obtain rfl : k = ls.length := by omega
      gi_wp2_with (refine ⟨trivial, ?_⟩; gi_at_call 89; refine (callsIn_wide.2 (windows_any _ _ _ _ _)).mono ?_; rintro e w' ⟨rfl, rfl⟩)
      obtain ⟨W0, hW0⟩ : ∃ W0, (wr.alloc (.cells #[.slice ao ls.length cap] 22)).alloc (.cells #[.int .i64 sz] 3) = W0 := ⟨_, rfl⟩
      have hgW : wr.grownBy W0 none := by rw [← hW0]; exact grown_trans (World.grownBy_alloc _ _ _) (World.grownBy_alloc _ _ _)
      have hltW : w.heap.size + 1 + 1 < wr.heap.size := (Array.getElem?_eq_some_iff.1 hm.out.m).1
      have hFD : ∀ j, j < ls.length → F j = foldM ls sz [] j := fun j hj => by rw [hF.out j hj]; rfl
      have hA0 := hm.out.grown hgW
      have hJ0 : MkS w sz ls.length wr.heap.size (.slice ao ls.length cap) (foldM ls sz []) W0 := by
        refine ⟨⟨hA0.z, ⟨?_⟩, hA0.m, hA0.g⟩, ?_, ?_⟩
        · rw [hA0.r.h, rowI_same hFD]
        · rw [← hW0, Below.heap_alloc _ _ _ (by simp)]; exact heap_alloc_new _ _
        · rw [← hW0]
          have q := heap_alloc_new (wr.alloc (.cells #[.slice ao ls.length cap] 22)) (.cells #[.int .i64 sz] 3)
          simpa using q
      have hB0 : Below w.heap.size w W0 := hA0.g
      have hsz : W0.heap.size = wr.heap.size + 2 := by rw [← hW0]; simp
      have hs0 : IntsAt W0 ao ls := HS.out.grown (grown_below hB0)
      obtain ⟨B, hBdef⟩ : ∃ B, wr.heap.size = B := ⟨_, rfl⟩
      rw [hBdef] at hJ0 hsz hltW
      rw [hW0, hBdef]
      clear hW0 hgW hFD hA0 hm hF cz cm hk
      refine wpIn_rangeFunc_ownH (α := WinNo ls sz) rfl (by omega) (gf := 146) (lb := #[.pointer (some ⟨B, 0, none⟩), .pointer (some ⟨B + 1, 0, none⟩)]) rfl trivial (enters_of Try.func146 (by kernel_rfl) rfl)
        (encs := fun x => #[.int .i64 x.1.1, .int .i64 x.1.2]) (Kp := KpE w.heap.size B (B + 1)) (S := fun ys => ys.map (·.1) = wins ls sz ls.length) (Sp := fun _ => True) (N := ls.length) (w0 := W0) ?seq kpE_t ?kb (Below.refl _ _) (fun _ => rfl)
        (fun pre W => MkS w sz ls.length B (.slice ao ls.length cap) (foldM ls sz pre) W)
        (fun _ _ _ => False)
        (mks_own (by omega))
        (fun _ _ _ _ _ hs _ _ => hs)
        hJ0
        (fun x a' _ => a' = { tmps := #[.slice ao ls.length cap, .int .i64 sz, undef, .pointer (some ⟨w.heap.size, 0, none⟩), .slice none 0 0, .int .i64 0, .int .i64 0, .pointer (some ⟨w.heap.size + 1 + 1, 0, none⟩), u8, .int .i64 x.1.1, .int .i64 x.1.2, .slice ao ls.length cap, .int .i64 sz, .int .i64 0, .int .i64 0, .bool false, undef, .slice ao ls.length cap, .int .i64 ls.length, .slice (some ⟨w.heap.size + 1, 0, none⟩) ls.length ls.length, .slice (some ⟨w.heap.size + 1, 0, none⟩) ls.length ls.length, .int .i64 ls.length, .int .i64 ls.length, .bool false, u24, u25, u26, u27, u28, .slice ao ls.length cap, .int .i64 sz, .func (.func 146) #[] #[.pointer (some ⟨B, 0, none⟩), .pointer (some ⟨B + 1, 0, none⟩)], .int .i64 x.1.1, .int .i64 x.1.2, undef, undef, undef, undef, undef, undef, undef, undef, undef, undef], defers := [] })
        (fun x a' _ X Y row hs hg hr => hs)
        ?assign ?body ?done ?stop
      case seq =>
        intro l J Jx W hW hJ _ hY h0
        have hb3 : W.heap[B]? = W0.heap[B]? := hW.block _ (by omega)
        have hb4 : W.heap[B + 1]? = W0.heap[B + 1]? := hW.block _ (by omega)
        refine (windows1_in 3 (by omega) l B (B + 1) w.heap.size ao cap ls hl HV.out HAO.out sz h1 h2 J Jx (fun pre V m hj => hJ pre V _ none hj (grown_drewN V none m) (fun r h => by cases h)) hY W ?_ ?_ (hs0.grown (grown_below hW)) h0).mono ?_
        · have := hb3.trans hJ0.l; simp [World.cell?, this]
        · have := hb4.trans hJ0.i; simp [World.cell?, this]
        rintro e W' ⟨he, h | ⟨pre, _, hj⟩⟩
        · exact ⟨he, .inl h⟩
        · exact ⟨he, .inr ⟨pre, trivial, hj⟩⟩
      case kb =>
        intro W l o o' hlW ho hc hwk
        exact ⟨belowK_b (w := W0) (by omega) W l o o' hlW ho hc hwk, World.putObj_heap_other (by omega), World.putObj_heap_other (by omega)⟩
      case assign =>
        rintro l pre x W K hI hK
        gi_wp2
        exact hK _ _ ((KeepsOthers.refl _).from _) ⟨Below.refl _ W, rfl, rfl⟩ hI rfl
      case body =>
        rintro l pre x a' W hlr ⟨r, hr⟩ hI rfl hlt
        have hfold := foldM_snoc ls sz pre x
        obtain ⟨F0, hF0⟩ : ∃ b0, foldM ls sz pre = b0 := ⟨_, rfl⟩
        rw [hF0] at hI hfold
        obtain ⟨⟨xa, xs⟩, hxx⟩ := x
        have hxl := hxx.1; have hxs := hxx.2.1
        simp only at hxl hxs hfold ⊢
        obtain ⟨p, hp⟩ : ∃ p, xa + sz - 1 = p := ⟨_, rfl⟩
        have hp1 : (xa : Int) + (sz : Int) - 1 = (p : Int) := by omega
        have hpl : p < ls.length := by omega
        have hpl2 : (p : Int) < (ls.length : Int) := by omega
        have hqd : 0 ≤ xs / (sz : Int) ∧ xs / (sz : Int) ≤ xs := ⟨Int.ediv_nonneg hxs.1 (by omega), Int.ediv_le_self _ hxs.1⟩
        have hqt : xs.tdiv (sz : Int) = xs / (sz : Int) := Int.tdiv_eq_ediv_of_nonneg hxs.1
        obtain ⟨q, hq⟩ : ∃ q, xs / (sz : Int) = q := ⟨_, rfl⟩
        rw [hq] at hqd hqt
        have HF : Hid (foldM ls sz (pre ++ [⟨(xa, xs), hxx⟩]) = upI F0 p q) := by
          show _ = _; rw [hfold]; unfold meanNext; simp only; rw [hp, hqt]
        have hID : MkS w sz ls.length B (.slice ao ls.length cap) F0 W := hI
        have HI := Lib.hid hID; have HQ := Lib.hid hq; have HQT := Lib.hid hqt
        have cz := hID.a.cz; have cm := hID.a.cm
        have cr := hID.a.r.cell hpl
        have fr := hID.a.r.free p
        have rp : IntKind.i64.wrap (p : Int) = (p : Int) := IntWalk.i64_in _ (by omega)
        have rq : IntKind.i64.wrap q = q := IntWalk.i64_in _ (by omega)
        have rxs : IntKind.i64.wrap ((xa : Int) + (sz : Int)) = (xa : Int) + (sz : Int) := IntWalk.i64_in _ (by omega)
        have sz0 : ((sz : Int) == 0) = false := by simp; omega
        have sz1 : ¬ (sz : Int) = 0 := by omega
        have sz2 : ¬ sz = 0 := by omega
        have xb : xs ≤ 1000000000000000 := hxs.2
        have xb0 := hxs.1
        clear hI hfold hF0 hr hlt hID hp hxs
        have hmx : Try.prog.follows .mixedOrders = true := by kernel_rfl
        have HC : Hid (∀ V, W.drew.grownBy V (some (w.heap.size + 1)) → V.cell? ⟨w.heap.size, 0, none⟩ = some (.int .i64 sz) ∧ V.cell? ⟨w.heap.size + 1 + 1, 0, none⟩ = some (.slice (some ⟨w.heap.size + 1, 0, none⟩) ls.length ls.length)) := fun V g => by
          have keep : ∀ (b i : Nat) (v : Value), b ≠ w.heap.size + 1 → W.cell? ⟨b, i, none⟩ = some v → V.cell? ⟨b, i, none⟩ = some v := fun b i v hne h => g.cell (w := W.drew) h (fun e => hne (by injection e))
          exact ⟨keep _ _ _ (by omega) cz, keep _ _ _ (by omega) cm⟩
        gi_wp2
        refine fregion_in_round (S := fun V => W.drew.grownBy V (some (w.heap.size + 1))) hmx (by kernel_rfl) (fun ⟨_, _, h⟩ => h) (World.grownBy.refl _ _) (fun hHeld => ?_)
        clear hmx
        refine wpAnyH_take (i := 0) (v := .slice (some ⟨w.heap.size + 1, 0, none⟩) ls.length ls.length) rfl (by kernel_rfl) (by kernel_rfl) (by kernel_rfl) (fun _ _ _ h => h) (Or.inl ⟨by rfl, fun V hV => ?_⟩) hHeld ?_
        · have q1 := (HC.out V hV).2
          clear hV
          go_simp
        try simp only [Go.Act.put, List.setIfInBounds_toArray, List.set_cons_zero, List.set_cons_succ]
        refine wpAnyH_take (i := 1) (v := .int .i64 xa) rfl (by kernel_rfl) (by kernel_rfl) (by kernel_rfl) (fun _ _ _ h => h) (Or.inl ⟨by rfl, fun V hV => ?_⟩) hHeld ?_
        · clear hV
          go_simp
        try simp only [Go.Act.put, List.setIfInBounds_toArray, List.set_cons_zero, List.set_cons_succ]
        refine wpAnyH_take (i := 2) (v := .int .i64 sz) rfl (by kernel_rfl) (by kernel_rfl) (by kernel_rfl) (fun _ _ _ h => h) (Or.inl ⟨by rfl, fun V hV => ?_⟩) hHeld ?_
        · have q1 := (HC.out V hV).1
          clear hV
          go_simp
        try simp only [Go.Act.put, List.setIfInBounds_toArray, List.set_cons_zero, List.set_cons_succ]
        refine wpAnyH_take (i := 3) (v := .int .i64 ((xa : Int) + (sz : Int))) rfl (by kernel_rfl) (by kernel_rfl) (by kernel_rfl) (fun _ _ _ h => h) (Or.inl ⟨by rfl, fun V hV => ?_⟩) hHeld ?_
        · clear hV
          go_simp
        try simp only [Go.Act.put, List.setIfInBounds_toArray, List.set_cons_zero, List.set_cons_succ]
        refine wpAnyH_take (i := 4) (v := .int .i64 p) rfl (by kernel_rfl) (by kernel_rfl) (by kernel_rfl) (fun _ _ _ h => h) (Or.inl ⟨by rfl, fun V hV => ?_⟩) hHeld ?_
        · clear hV
          go_simp
        try simp only [Go.Act.put, List.setIfInBounds_toArray, List.set_cons_zero, List.set_cons_succ]
        refine wpAnyH_take (i := 5) (v := .int .i64 xs) rfl (by kernel_rfl) (by kernel_rfl) (by kernel_rfl) (fun _ _ _ h => h) (Or.inl ⟨by rfl, fun V hV => ?_⟩) hHeld ?_
        · clear hV
          go_simp
        try simp only [Go.Act.put, List.setIfInBounds_toArray, List.set_cons_zero, List.set_cons_succ]
        refine wpAnyH_take (i := 6) (v := .int .i64 sz) rfl (by kernel_rfl) (by kernel_rfl) (by kernel_rfl) (fun _ _ _ h => h) (Or.inl ⟨by rfl, fun V hV => ?_⟩) hHeld ?_
        · have q1 := (HC.out V hV).1
          clear hV
          go_simp
        try simp only [Go.Act.put, List.setIfInBounds_toArray, List.set_cons_zero, List.set_cons_succ]
        refine wpAnyH_take (i := 7) (v := .int .i64 q) rfl (by kernel_rfl) (by kernel_rfl) (by kernel_rfl) (fun _ _ _ h => h) (Or.inl ⟨by rfl, fun V hV => ?_⟩) hHeld ?_
        · clear hV
          go_simp
        try simp only [Go.Act.put, List.setIfInBounds_toArray, List.set_cons_zero, List.set_cons_succ]
        refine wpAnyH_take (i := 8) (v := .pointer (some ⟨w.heap.size + 1, p, none⟩)) rfl (by kernel_rfl) (by kernel_rfl) (by kernel_rfl) (fun _ _ _ h => h) (Or.inl ⟨by rfl, fun V hV => ?_⟩) hHeld ?_
        · clear hV
          go_simp
        try simp only [Go.Act.put, List.setIfInBounds_toArray, List.set_cons_zero, List.set_cons_succ]
        refine wpAnyH_ready (rs := [9]) (by kernel_rfl) (by simp) ?_
        refine AllReadyH.cons rfl (fun K hK => ?_) AllReadyH.nil
        have cr2 : W.drew.cell? ⟨w.heap.size + 1, p, none⟩ = some (.int .i64 (F0 p)) := cr
        have fr2 : W.drew.frozen? ⟨w.heap.size + 1, p, none⟩ = false := fr
        go_simp
        refine hK.out _ _ ?_ (fun _ => ?_)
        · exact ⟨rfl, rfl, rfl, by simp [World.setCell], fun i hi hne => by show (W.setCell _ _).heap[i]? = W.heap[i]?; rw [Below.heap_setCell _ _ _ _ (fun e => hne (by rw [e]))]⟩
        refine wpAnyH_done (by kernel_rfl) ?_ _
        clear hK K cr2 fr2 hHeld
        have hM2 := HI.out.a.set p q
        have hMD : MkA w sz ls.length (upI F0 p q) (W.drew.setCell ⟨w.heap.size + 1, p, none⟩ (.int .i64 q)) := ⟨hM2.z, ⟨hM2.r.h⟩, hM2.m, ((HI.out.a.g.trans (Below.refl _ W).drew).setCell (by show _ ≤ w.heap.size + 1; omega) _)⟩
        have hlB : B < W.heap.size := (Array.getElem?_eq_some_iff.1 HI.out.l).1
        refine ⟨((KeepsOthers.drew W).trans (KeepsOthers.setCell _ _ _)).from _, ⟨((Below.refl _ W).drew).setCell (by show _ ≤ w.heap.size + 1; omega) _, ?_, ?_⟩, ?_⟩
        · show (W.setCell _ _).heap[_]? = W.heap[_]?; rw [Below.heap_setCell _ _ _ _ (by show _ ≠ w.heap.size + 1; omega)]
        · show (W.setCell _ _).heap[_]? = W.heap[_]?; rw [Below.heap_setCell _ _ _ _ (by show _ ≠ w.heap.size + 1; omega)]
        · show MkS _ _ _ _ _ (foldM ls sz (pre ++ [_])) _
          rw [HF.out]
          refine ⟨hMD, ?_, ?_⟩
          · show (W.setCell _ _).heap[_]? = _; rw [Below.heap_setCell _ _ _ _ (by show _ ≠ w.heap.size + 1; omega)]; exact HI.out.l
          · show (W.setCell _ _).heap[_]? = _; rw [Below.heap_setCell _ _ _ _ (by show _ ≠ w.heap.size + 1; omega)]; exact HI.out.i
      case done =>
        rintro D ys W hD hS hI hK
        have hfin : ∀ j, j < ls.length → foldM ls sz ys j = smV ls sz j := foldM_end h1 hS
        have HI := Lib.hid hI; have HK := Lib.hid hK; have HFIN := Lib.hid hfin
        have cm := hI.a.cm
        clear hI hK hfin hS
        gi_wp2
        refine ⟨by simp, .inl ⟨_, _, rfl, run_takeDeferred HK.out, ?_⟩⟩
        refine ⟨.tuple #[.slice (some ⟨w.heap.size + 1, 0, none⟩) ls.length ls.length, .int .i64 0], ?_, ⟨⟨rfl, ⟨?_⟩⟩, HI.out.a.g.trans (belowK_b (w := w) (Nat.le_refl _) W D _ _ (by omega) HK.out rfl rfl)⟩⟩
        · simp [results, Try.results17, go_sem]
        · rw [World.putObj_heap_other (by omega), HI.out.a.r.h, rowI_same HFIN.out]
      case stop =>
        rintro D c pre W _ _ h _
        exact h.elim

/-- Smooth, for any stream and size. -/
theorem smoothP_any (ao : Option Addr) (cap : Nat) (l : List Int) (hl : (l.length : Int) ≤ 9223372036854775807) (size : Int) (w : World) (hs : IntsAt w ao l) {E : Int} {n : Nat} (hE : Hid (windowE l size = E)) (hn : Hid (smoothN l size = n)) :
    Calls Try.prog 17 #[.slice ao l.length cap, .int .i64 size] w fun e w' => (∃ a c, e = .returned (.tuple #[.slice a n c, .int .i64 E]) ∧ FInts w' a n (smV l size.toNat)) ∧ w.grownBy w' none := by
  have hv := hn.out
  unfold smoothN at hv
  rw [hE.out] at hv
  by_cases h0 : E = 0
  · rw [if_pos h0] at hv
    subst h0; subst hv
    obtain ⟨h1, h2, h3⟩ := window_ok hE.out
    obtain ⟨sz, rfl⟩ : ∃ m : Nat, size = m := ⟨size.toNat, by omega⟩
    have h4 := stream_ok h1
    refine (mean_ok ao cap l h4.1 h4.2 sz (by omega) (by omega) hE w hs hs.block).mono ?_
    rintro e w' ⟨⟨rfl, hr⟩, hb⟩
    exact ⟨⟨_, _, rfl, by rw [Int.toNat_natCast]; exact FInts.of_row hr (fun _ _ => rfl)⟩, grown_below hb⟩
  · rw [if_neg h0] at hv
    subst hv
    have hne : (E != 0) = true := by simpa using h0
    have GA := Lib.hid (World.grownBy_alloc w (.cells #[.int .i64 size] 3) none)
    have HSA := Lib.hid (hs.grown GA.out)
    clear hn hs h0
    go_enter Try.func17, Try.ntmps17
    go_wp2_with (go_at_call 88; refine (checkWindow_any _ _ _ hl _ _ HSA.out hE).mono ?_; rintro e w1 ⟨rfl, rfl⟩)
    go_ret2
    exact ⟨⟨_, _, rfl, FInts.none _ _ _⟩, GA.out⟩

set_option maxHeartbeats 800000 in
theorem rSmooth_any (ao : Option Addr) (cap : Nat) (l : List Int) (hl : (l.length : Int) ≤ 9223372036854775807) (size : Int) (w : World) (hs : IntsAt w ao l) {E : Int} {n : Nat} (hE : Hid (windowE l size = E)) (hn : Hid (smoothN l size = n)) :
    Calls Try.prog 18 #[.slice ao l.length cap, .int .i64 size] w fun e w' => (∃ a c, e = .returned (.tuple #[.slice a n c, .int .i64 E]) ∧ FInts w' a n (smV l size.toNat)) ∧ w.grownBy w' none := by
  have hv := hn.out
  unfold smoothN at hv
  rw [hE.out] at hv
  obtain ⟨se, hse⟩ : ∃ e, streamE l = e := ⟨_, rfl⟩
  have HSE := Lib.hid hse; have HS := Lib.hid hs
  have hwe := hE.out
  unfold windowE at hwe
  rw [hse] at hwe
  by_cases hs0 : se = 0
  · rw [if_pos hs0] at hwe
    subst hs0
    by_cases hz : 1 ≤ size ∧ size ≤ 1000000
    · rw [if_pos hz] at hwe
      subst hwe
      rw [if_pos rfl] at hv
      subst hv
      obtain ⟨sz, rfl⟩ : ∃ m : Nat, size = m := ⟨size.toNat, by omega⟩
      have h4 := stream_ok hse
      have z0 := hz.1
      have z1 : ¬ (sz : Int) < 1 := by omega
      have z2 : ¬ (1000000 : Int) < (sz : Int) := by omega
      have hz1 := hz.2
      have hl6 := h4.1
      have HV := Lib.hid h4.2
      clear hse hs hn hE hz h4
      go_enter Try.func18, Try.ntmps18
      go_wp2_with (go_at_call 63; refine (rcheckStream_any _ _ _ hl _ HS.out HSE).mono ?_; rintro e w1 ⟨rfl, rfl⟩)
      refine (smooth_is ao cap l hl6 HV sz z0 hz1 _ HS.out).mono ?_; rintro e w2 ⟨⟨a1, c1, rfl, hf⟩, hg⟩
      have HF := Lib.hid hf; have HG := Lib.hid hg
      clear hf hg
      go_wp2_with fail
      go_ret2
      exact ⟨⟨_, _, rfl, by rw [Int.toNat_natCast]; exact HF.out⟩, HG.out⟩
    · rw [if_neg hz] at hwe
      subst hwe
      rw [if_neg (by decide)] at hv
      subst hv
      clear hse hs hn hE
      by_cases z1 : size < 1
      · clear hz
        go_enter Try.func18, Try.ntmps18
        go_wp2_with (go_at_call 63; refine (rcheckStream_any _ _ _ hl _ HS.out HSE).mono ?_; rintro e w1 ⟨rfl, rfl⟩)
        go_ret2
        exact ⟨⟨_, _, rfl, FInts.none _ _ _⟩, grown_refl _ _⟩
      · have z2 : (1000000 : Int) < size := by omega
        clear hz
        go_enter Try.func18, Try.ntmps18
        go_wp2_with (go_at_call 63; refine (rcheckStream_any _ _ _ hl _ HS.out HSE).mono ?_; rintro e w1 ⟨rfl, rfl⟩)
        go_ret2
        exact ⟨⟨_, _, rfl, FInts.none _ _ _⟩, grown_refl _ _⟩
  · rw [if_neg hs0] at hwe
    subst hwe
    rw [if_neg hs0] at hv
    subst hv
    have hne : (se != 0) = true := by simpa using hs0
    clear hse hs hn hE hs0
    go_enter Try.func18, Try.ntmps18
    go_wp2_with (go_at_call 63; refine (rcheckStream_any _ _ _ hl _ HS.out HSE).mono ?_; rintro e w1 ⟨rfl, rfl⟩)
    go_ret2
    exact ⟨⟨_, _, rfl, FInts.none _ _ _⟩, grown_refl _ _⟩
end Go.Proofs.Ytmfnphknoclhfaa
