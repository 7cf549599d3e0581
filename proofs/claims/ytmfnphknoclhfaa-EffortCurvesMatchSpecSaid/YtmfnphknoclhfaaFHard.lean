/- The contract of Hard. -/
import Derived.Test.YtmfnphknoclhfaaFBridge
import Derived.Test.YtmfnphknoclhfaaFHardW
namespace Go.Proofs.Ytmfnphknoclhfaa
open Go.RowKit Go.Shelf

attribute [local go_sem] Oper.semAt_some

theorem hblock_kept {W W' : World} {row : Option Nat} {B : Nat} {o : Obj} (h : W.heap[B]? = some o) (hc : o.isCells = true) (hg : W.grownBy W' row) (hrow : ∀ r, row = some r → ∃ o : Obj, W.heap[r]? = some o ∧ o.isCells = false) : W'.heap[B]? = some o :=
  (hg.block B (Array.getElem?_eq_some_iff.1 h).1 (fun e => by
    obtain ⟨o', ho, hc'⟩ := hrow B e.symm
    rw [h] at ho; cases ho; rw [hc] at hc'; cases hc')).trans h

/-- The memory of Hard: how many windows, their cubes, and what the iterator reads. -/
structure HkS (w : World) (v : Value) (b : HSt) (W : World) : Prop where
  m : W.heap[w.heap.size]? = some (.cells #[.int .i64 b.many] 3 (0, 0))
  s : W.heap[w.heap.size + 1]? = some (.cells #[.int .i64 b.cubes] 3 (0, 0))
  l : W.heap[w.heap.size + 2]? = some (.cells #[v] 22 (0, 0))
  i : W.heap[w.heap.size + 3]? = some (.cells #[.int .i64 30] 3 (0, 0))
  g : Below w.heap.size w W
section
variable {w : World} {v : Value} {b : HSt} {W : World}
theorem HkS.c0 (h : HkS w v b W) : W.cell? ⟨w.heap.size, 0, none⟩ = some (.int .i64 b.many) := by simp [World.cell?, h.m]
theorem HkS.c1 (h : HkS w v b W) : W.cell? ⟨w.heap.size + 1, 0, none⟩ = some (.int .i64 b.cubes) := by simp [World.cell?, h.s]
theorem HkS.f0 (h : HkS w v b W) : W.frozen? ⟨w.heap.size, 0, none⟩ = false := by simp [World.frozen?, h.m]
theorem HkS.f1 (h : HkS w v b W) : W.frozen? ⟨w.heap.size + 1, 0, none⟩ = false := by simp [World.frozen?, h.s]
theorem HkS.set (h : HkS w v b W) (x y : Int) : HkS w v ⟨x, y⟩ ((W.setCell ⟨w.heap.size, 0, none⟩ (.int .i64 x)).setCell ⟨w.heap.size + 1, 0, none⟩ (.int .i64 y)) := by
  have k : ∀ {B : Nat} {o : Obj}, B ≠ w.heap.size → B ≠ w.heap.size + 1 → W.heap[B]? = some o → ((W.setCell ⟨w.heap.size, 0, none⟩ (.int .i64 x)).setCell ⟨w.heap.size + 1, 0, none⟩ (.int .i64 y)).heap[B]? = some o := fun {B o} h1 h2 h => by
    rw [Below.heap_setCell _ _ _ _ h2, Below.heap_setCell _ _ _ _ h1]; exact h
  refine ⟨?_, ?_, k (by omega) (by omega) h.l, k (by omega) (by omega) h.i, (h.g.setCell (Nat.le_refl _) _).setCell (by show _ ≤ w.heap.size + 1; omega) _⟩
  · rw [Below.heap_setCell _ _ _ _ (by show w.heap.size ≠ w.heap.size + 1; omega)]
    simp [World.setCell, Array.getElem?_modify, h.m]
  · have q : (W.setCell ⟨w.heap.size, 0, none⟩ (.int .i64 x)).heap[w.heap.size + 1]? = some (.cells #[.int .i64 b.cubes] 3 (0, 0)) := by
      rw [Below.heap_setCell _ _ _ _ (by show w.heap.size + 1 ≠ w.heap.size; omega)]; exact h.s
    generalize W.setCell ⟨w.heap.size, 0, none⟩ (.int .i64 x) = V at *
    simp [World.setCell, Array.getElem?_modify, q]
theorem HkS.grown (h : HkS w v b W) {W' : World} (hg : W.grownBy W' none) : HkS w v b W' := by
  have k : ∀ {B : Nat} {o : Obj}, W.heap[B]? = some o → W'.heap[B]? = some o := fun {B o} h => (hg.block B (Array.getElem?_eq_some_iff.1 h).1 (by simp)).trans h
  exact ⟨k h.m, k h.s, k h.l, k h.i, h.g.grown hg h.g.size (fun k e => by cases e)⟩
end
theorem hks_own {w : World} {v : Value} {l : List Int} {B : Nat} (hB : w.heap.size ≤ B) : OwnFrom B (fun (pre : List (WinNo l 30)) W => HkS w v (foldH l pre) W) :=
  fun s W W' row hs hg hr => by
    have hr2 : ∀ r, row = some r → ∃ o : Obj, W.heap[r]? = some o ∧ o.isCells = false := fun r e => (hr r e).2
    exact ⟨hblock_kept hs.m rfl hg hr2, hblock_kept hs.s rfl hg hr2, hblock_kept hs.l rfl hg hr2, hblock_kept hs.i rfl hg hr2, hs.g.grown hg hs.g.size (fun k e => Nat.le_trans hB (hr k e).1)⟩

/-- What the region keeps: two cells are as they were till they are stored. -/
def lateC (A B : Addr) (vA vB : Value) (p q : Nat) (L : Array Bool) (V : World) : Prop := (L.getD p false = false → V.cell? A = some vA) ∧ (L.getD q false = false → V.cell? B = some vB)
section
variable {A B : Addr} {vA vB : Value} {p q i : Nat} {ops : Array Oper} {md : Region.Mode} {op : Oper} {W : World}
theorem lateC_iff (h1 : i ≠ p) (h2 : i ≠ q) (L : Array Bool) (V : World) : lateC A B vA vB p q (L.setIfInBounds i true) V ↔ lateC A B vA vB p q L V := by
  unfold lateC; rw [getD_set_ne false h1, getD_set_ne false h2]
theorem lateC_1 {L : Array Bool} (hp : L.getD p false = true) (h : W.cell? B = some vB) : lateC A B vA vB p q L W := ⟨fun e => absurd (hp.symm.trans e) (by decide), fun _ => h⟩
theorem lateC_all {L : Array Bool} (hp : L.getD p false = true) (hq : L.getD q false = true) : lateC A B vA vB p q L W := ⟨fun e => absurd (hp.symm.trans e) (by decide), fun e => absurd (hq.symm.trans e) (by decide)⟩
theorem lateC_c0 (h : Before md ops (lateC A B vA vB p q) i W) (ho : ops[p]? = some op) (he : (op.after.any fun e => Region.binds md e && e.on == i) = true) : W.cell? A = some vA := by
  obtain ⟨L, hc, hf, hs, _⟩ := h
  exact hs (closed_not hc ho he hf)
theorem lateC_c1 (h : Before md ops (lateC A B vA vB p q) i W) (ho : ops[q]? = some op) (he : (op.after.any fun e => Region.binds md e && e.on == i) = true) : W.cell? B = some vB := by
  obtain ⟨L, hc, hf, _, hs⟩ := h
  exact hs (closed_not hc ho he hf)
end

set_option maxRecDepth 100000 in
set_option maxHeartbeats 1600000 in
theorem hard_err (ao : Option Addr) (cap : Nat) (l : List Int) (hl : (l.length : Int) ≤ 9223372036854775807) (w : World) (hs : IntsAt w ao l) {E : Int} (hE : Hid (hardE l = E)) (h0 : E ≠ 0) (m : Nat) :
    Calls Try.prog 19 #[.slice ao l.length cap] w fun e w' => e = .returned (.tuple #[.int .i64 (hardV l E m), .bool (hardB l E), .int .i64 E]) ∧ w.grownBy w' none := by
  have HS := Lib.hid hs; clear hs
  have hV : hardV l E m = 0 := by simp [hardV, h0]
  have hB : hardB l E = false := by simp [hardB, h0]
  rw [hV, hB]
  obtain ⟨se, hse⟩ : ∃ e, streamE l = e := ⟨_, rfl⟩
  have HSE := Lib.hid hse
  have hv := hE.out
  unfold hardE at hv
  rw [hse] at hv
  have hne : (E != 0) = true := by simpa using h0
  clear hE hV hB
  by_cases h1 : se = 0
  · rw [if_pos h1] at hv
    subst h1
    have HE := Lib.hid hv
    have hl6 := (stream_ok hse).1
    clear hv hse h0
    go_enter Try.func19, Try.ntmps19
    go_wp2_with (first
      | (go_at_call 62; refine (checkStream_any ao cap l hl _ HS.out HSE).mono ?_; rintro e w1 ⟨rfl, rfl⟩)
      | (go_at_call 91; refine (checkEach_any ao cap l (-1) 10000 hl6 _ HS.out HE).mono ?_; rintro e w1 ⟨rfl, rfl⟩))
    go_ret3
    exact ⟨rfl, grown_refl _ _⟩
  · rw [if_neg h1] at hv
    subst hv
    clear hse h0 h1
    go_enter Try.func19, Try.ntmps19
    go_wp2_with (first
      | (go_at_call 62; refine (checkStream_any ao cap l hl _ HS.out HSE).mono ?_; rintro e w1 ⟨rfl, rfl⟩))
    go_ret3
    exact ⟨rfl, grown_refl _ _⟩

set_option maxRecDepth 100000 in
set_option maxHeartbeats 4000000 in
theorem hard_ok (ao : Option Addr) (cap : Nat) (ls : List Int) (hE : Hid (hardE ls = 0)) (w : World) (hs : IntsAt w ao ls) (hao : ∀ a, ao = some a → ls ≠ [] → a.block < w.heap.size) {m : Nat} (hm : Hid (hmN ls ls.length ≠ 0 → TurnsAt (rootP ((hsN ls ls.length).tdiv (hmN ls ls.length))) 10000 m)) :
    Calls Try.prog 19 #[.slice ao ls.length cap] w fun e w' => e = .returned (.tuple #[.int .i64 (hardV ls 0 m), .bool (hardB ls 0), .int .i64 0]) ∧ Below w.heap.size w w' := by
  have HS := Lib.hid hs; have HAO := Lib.hid hao
  obtain ⟨se, hse⟩ : ∃ e, streamE ls = e := ⟨_, rfl⟩
  have hv := hE.out
  unfold hardE at hv
  rw [hse] at hv
  have hs0 : se = 0 := by
    by_cases q : se = 0
    · exact q
    · rw [if_neg q] at hv; exact hv
  subst hs0
  rw [if_pos rfl] at hv
  have HSE := Lib.hid hse
  obtain ⟨hl, hbd⟩ := stream_ok hse
  have HEA : Hid (eachE (-1) 10000 ls = 0) := hv
  have HV : Hid (∀ k, k < ls.length → -1 ≤ nthI ls k ∧ nthI ls k ≤ 1000000000) := hbd
  have HV2 : Hid (∀ k, k < ls.length → nthI ls k ≤ 10000) := fun k hk => (each_nth hv hk).2
  have hll : ls.length ≤ 1000000 := by omega
  clear hs hao hE hv hse hbd
  refine (callsIn_wide (n := 4)).1 ?_
  refine callsIn_of_wp_marks Try.func19 rfl trivial ?_ rfl
  simp only [Try.ntmps19, List.size_toArray, List.length_cons, List.length_nil, Nat.reduceAdd, Nat.reduceSub, Array.replicate_succ, Array.replicate_zero, List.push_toArray, List.append_toArray, List.nil_append, List.cons_append]
  gi_wp2_with (first
    | (refine ⟨trivial, ?_⟩; gi_at_call 62; refine (callsIn_wide.2 (checkStream_any ao cap ls (by omega) _ HS.out HSE)).mono ?_; rintro e w' ⟨rfl, rfl⟩)
    | (refine ⟨trivial, ?_⟩; gi_at_call 91; refine (callsIn_wide.2 (checkEach_any ao cap ls (-1) 10000 hl _ HS.out HEA)).mono ?_; rintro e w' ⟨rfl, rfl⟩)
    | (refine ⟨trivial, ?_⟩; gi_at_call 89; refine (callsIn_wide.2 (windows_any _ _ _ _ _)).mono ?_; rintro e w' ⟨rfl, rfl⟩))
  obtain ⟨W0, hW0⟩ : ∃ W0, ((((w.alloc (.cells #[.int .i64 0] 3)).alloc (.cells #[.int .i64 0] 3)).alloc (.cells #[.slice ao ls.length cap] 22)).alloc (.cells #[.int .i64 30] 3)) = W0 := ⟨_, rfl⟩
  have hB0 : Below w.heap.size w W0 := by
    rw [← hW0]; exact ((((Below.refl _ w).alloc (Nat.le_refl _) _).alloc (by simp) _).alloc (by simp <;> omega) _).alloc (by simp <;> omega) _
  have hsz : W0.heap.size = w.heap.size + 4 := by rw [← hW0]; simp
  have hJ0 : HkS w (.slice ao ls.length cap) (foldH ls []) W0 := by
    subst hW0
    refine ⟨?_, ?_, ?_, ?_, hB0⟩
    · rw [Below.heap_alloc _ _ _ (by simp <;> omega), Below.heap_alloc _ _ _ (by simp <;> omega), Below.heap_alloc _ _ _ (by simp)]; exact heap_alloc_new _ _
    · rw [Below.heap_alloc _ _ _ (by simp <;> omega), Below.heap_alloc _ _ _ (by simp)]
      have q := heap_alloc_new (w.alloc (.cells #[.int .i64 0] 3)) (.cells #[.int .i64 0] 3)
      simpa [foldH] using q
    · rw [Below.heap_alloc _ _ _ (by simp)]
      have q := heap_alloc_new ((w.alloc (.cells #[.int .i64 0] 3)).alloc (.cells #[.int .i64 0] 3)) (.cells #[.slice ao ls.length cap] 22)
      simpa [foldH] using q
    · have q := heap_alloc_new (((w.alloc (.cells #[.int .i64 0] 3)).alloc (.cells #[.int .i64 0] 3)).alloc (.cells #[.slice ao ls.length cap] 22)) (.cells #[.int .i64 30] 3)
      simpa [foldH] using q
  have hs0 : IntsAt W0 ao ls := HS.out.grown (grown_below hB0)
  rw [hW0]
  clear hW0
  refine wpIn_rangeFunc_ownH (α := WinNo ls 30) rfl (by omega) (gf := 146) (lb := #[.pointer (some ⟨w.heap.size + 2, 0, none⟩), .pointer (some ⟨w.heap.size + 3, 0, none⟩)]) rfl trivial (enters_of Try.func146 (by kernel_rfl) rfl)
    (encs := fun x => #[.int .i64 x.1.1, .int .i64 x.1.2]) (Kp := KpE w.heap.size (w.heap.size + 2) (w.heap.size + 3)) (S := fun ys => ys.map (·.1) = wins ls 30 ls.length) (Sp := fun _ => True) (N := ls.length) (w0 := W0) ?seq kpE_t ?kb (Below.refl _ _) (fun _ => rfl)
    (fun pre W => HkS w (.slice ao ls.length cap) (foldH ls pre) W)
    (fun _ _ _ => False)
    (hks_own (by omega))
    (fun _ _ _ _ _ hs _ _ => hs)
    hJ0
    (fun x a' _ => a' = { tmps := #[.slice ao ls.length cap, undef, .int .i64 0, .bool false, .int .i64 0, .int .i64 0, .int .i64 0, .pointer (some ⟨w.heap.size, 0, none⟩), .pointer (some ⟨w.heap.size + 1, 0, none⟩), undef, .int .i64 x.1.2, .slice ao ls.length cap, .int .i64 0, .int .i64 0, .bool false, undef, .slice ao ls.length cap, .int .i64 0, .int .i64 0, .bool false, undef, .slice ao ls.length cap, .func (.func 146) #[] #[.pointer (some ⟨w.heap.size + 1 + 1, 0, none⟩), .pointer (some ⟨w.heap.size + 1 + 1 + 1, 0, none⟩)], .int .i64 x.1.1, .int .i64 x.1.2, undef, undef, undef, undef, undef, undef, undef, undef, undef, undef, undef, undef, undef], defers := [] })
    (fun x a' _ X Y row hs hg hr => hs)
    ?assign ?body ?done ?stop
  case seq =>
    intro l J Jx W hW hJ _ hY h0
    have hb3 : W.heap[w.heap.size + 2]? = W0.heap[w.heap.size + 2]? := hW.block _ (by omega)
    have hb4 : W.heap[w.heap.size + 3]? = W0.heap[w.heap.size + 3]? := hW.block _ (by omega)
    refine (windows1_in 3 (by omega) l (w.heap.size + 2) (w.heap.size + 3) w.heap.size ao cap ls hl HV.out HAO.out 30 (by decide) (by decide) J Jx (fun pre V m hj => hJ pre V _ none hj (grown_drewN V none m) (fun r h => by cases h)) hY W ?_ ?_ (hs0.grown (grown_below hW)) h0).mono ?_
    · have := hb3.trans hJ0.l; simp [World.cell?, this]
    · have := hb4.trans hJ0.i; simp [World.cell?, this]
    rintro e W' ⟨he, h | ⟨pre, _, hj⟩⟩
    · exact ⟨he, .inl h⟩
    · exact ⟨he, .inr ⟨pre, trivial, hj⟩⟩
  case kb =>
    intro W l o o' hlW ho hc hwk
    exact ⟨belowK_b (w := W0) (by omega) W l o o' hlW ho hc hwk, World.putObj_heap_other (by omega), World.putObj_heap_other (by omega)⟩
  case assign =>
    rintro l pre x W K hI hK
    gi_wp2
    exact hK _ _ ((KeepsOthers.refl _).from _) ⟨Below.refl _ W, rfl, rfl⟩ hI rfl
  case body =>
    rintro l pre x a' W hlr ⟨r, hr⟩ hI rfl hlt
    have hbd := foldH_bd HV2.out pre
    have hfold := foldH_snoc ls pre x
    obtain ⟨b0, hb0⟩ : ∃ b0, foldH ls pre = b0 := ⟨_, rfl⟩
    rw [hb0] at hbd hI hfold
    have hxb := wins_bd HV2.out x.2.2.2
    obtain ⟨⟨xa, xs⟩, hx⟩ := x
    simp only at hxb hfold ⊢
    obtain ⟨q, hq⟩ : ∃ q, xs.tdiv 30 = q := ⟨_, rfl⟩
    have hq2 : xs / 30 = q := by rw [← Int.tdiv_eq_ediv_of_nonneg hxb.1]; exact hq
    have hqb := div30_bd hxb
    rw [hq] at hqb
    obtain ⟨c, hc⟩ : ∃ c, q * q * q = c := ⟨_, rfl⟩
    have hcb := (cube_bd hqb.1 (by omega)).2
    rw [hc] at hcb
    have HF : Hid (foldH ls (pre ++ [⟨(xa, xs), hx⟩]) = ⟨b0.many + 1, b0.cubes + c⟩) := by
      show _ = _; rw [hfold]; unfold HSt.next cubI; simp only; rw [hq, hc]
    obtain ⟨M, S⟩ := b0
    simp only at hbd HF
    obtain ⟨hM, s0, s1⟩ := hbd
    have m0 : 0 ≤ M := by omega
    have m1 : M ≤ 1000000 := by omega
    have s2 : S ≤ 1000000000000000000 := by omega
    obtain ⟨x0, x1⟩ := hxb
    obtain ⟨q0, q1⟩ := hqb
    obtain ⟨c0, c1⟩ := hcb
    have HC := Lib.hid hc; have HI := Lib.hid hI; have HLT := Lib.hid hlr
    have hmx : Try.prog.follows .mixedOrders = true := by kernel_rfl
    have HID : Hid (HkS w (.slice ao ls.length cap) ⟨M, S⟩ W.drew) := hI.grown (grown_drewN W none 1)
    have rQ : IntKind.i64.wrap q = q := IntWalk.i64_in _ (by omega)
    have HKO : Hid (KeepsOthers W W.drew) := KeepsOthers.drew W
    have HBL : Hid (Below w.heap.size W W.drew) := (Below.refl _ W).drew
    have HHP : Hid (W.drew.heap = W.heap) := rfl
    have rM : IntKind.i64.wrap (M + 1) = M + 1 := IntWalk.i64_in _ (by omega)
    have rS : IntKind.i64.wrap (S + c) = S + c := IntWalk.i64_in _ (by omega)
    clear hc hI hfold hb0 hM s1 hr hlt
    gi_wp2
    refine region_late_in (S := lateC ⟨w.heap.size, 0, none⟩ ⟨w.heap.size + 1, 0, none⟩ (.int .i64 M) (.int .i64 S) 7 8) hmx (by kernel_rfl) (fun ⟨_, _, h⟩ => h) ⟨fun _ => HID.out.c0, fun _ => HID.out.c1⟩ (fun hC0 hS0 => ?_)
    clear hmx
    generalize W.drew = V1 at *
    refine wpAnyS_take (i := 0) (v := .int .i64 M) rfl (by kernel_rfl) (by kernel_rfl) (by kernel_rfl) (lateC_iff (by decide) (by decide)) (fun _ _ _ h => h) (Or.inl ⟨by rfl, fun V hV => ?_⟩) hC0 hS0 (fun hC1 hS1 => ?_)
    · have q1 := lateC_c0 hV rfl (by kernel_rfl)
      clear hV
      go_simp
    clear hC0 hS0
    try simp only [Go.Act.put, List.setIfInBounds_toArray, List.set_cons_zero, List.set_cons_succ]
    refine wpAnyS_take (i := 1) (v := .int .i64 (M + 1)) rfl (by kernel_rfl) (by kernel_rfl) (by kernel_rfl) (lateC_iff (by decide) (by decide)) (fun _ _ _ h => h) (Or.inl ⟨by rfl, fun V hV => ?_⟩) hC1 hS1 (fun hC2 hS2 => ?_)
    · skip
      clear hV
      go_simp
    clear hC1 hS1
    try simp only [Go.Act.put, List.setIfInBounds_toArray, List.set_cons_zero, List.set_cons_succ]
    refine wpAnyS_take (i := 2) (v := .int .i64 S) rfl (by kernel_rfl) (by kernel_rfl) (by kernel_rfl) (lateC_iff (by decide) (by decide)) (fun _ _ _ h => h) (Or.inl ⟨by rfl, fun V hV => ?_⟩) hC2 hS2 (fun hC3 hS3 => ?_)
    · have q1 := lateC_c1 hV rfl (by kernel_rfl)
      clear hV
      go_simp
    clear hC2 hS2
    try simp only [Go.Act.put, List.setIfInBounds_toArray, List.set_cons_zero, List.set_cons_succ]
    refine wpAnyS_take (i := 3) (v := .int .i64 xs) rfl (by kernel_rfl) (by kernel_rfl) (by kernel_rfl) (lateC_iff (by decide) (by decide)) (fun _ _ _ h => h) (Or.inl ⟨by rfl, fun V hV => ?_⟩) hC3 hS3 (fun hC4 hS4 => ?_)
    · skip
      clear hV
      go_simp
    clear hC3 hS3
    try simp only [Go.Act.put, List.setIfInBounds_toArray, List.set_cons_zero, List.set_cons_succ]
    refine wpAnyS_take (i := 4) (v := .int .i64 q) rfl (by kernel_rfl) (by kernel_rfl) (by kernel_rfl) (lateC_iff (by decide) (by decide)) (fun _ _ _ h => h) (Or.inl ⟨by rfl, fun V hV => ?_⟩) hC4 hS4 (fun hC5 hS5 => ?_)
    · skip
      clear hV
      go_simp
    clear hC4 hS4
    try simp only [Go.Act.put, List.setIfInBounds_toArray, List.set_cons_zero, List.set_cons_succ]
    refine wpAnyS_ready (rs := [5]) (by kernel_rfl) (by simp) ?_
    refine AllReadyS.cons rfl hC5 (fun K hK => ?_) AllReadyS.nil
    go_simp
    refine (cube_is q q0 (by omega) _ HC).mono ?_
    rintro e w1 ⟨rfl, rfl⟩
    refine hK.out _ _ hS5 (fun hC6 hS6 => ?_)
    clear hK hC5 hS5 K
    try simp only [Go.Act.put, List.setIfInBounds_toArray, List.set_cons_zero, List.set_cons_succ]
    refine wpAnyS_take (i := 6) (v := .int .i64 (S + c)) rfl (by kernel_rfl) (by kernel_rfl) (by kernel_rfl) (lateC_iff (by decide) (by decide)) (fun _ _ _ h => h) (Or.inl ⟨by rfl, fun V hV => ?_⟩) hC6 hS6 (fun hC7 hS7 => ?_)
    · skip
      clear hV
      go_simp
    clear hC6 hS6
    try simp only [Go.Act.put, List.setIfInBounds_toArray, List.set_cons_zero, List.set_cons_succ]
    refine wpAnyS_ready (rs := [7]) (by kernel_rfl) (by simp) ?_
    refine AllReadyS.cons rfl hC7 (fun K hK => ?_) AllReadyS.nil
    have k0 := HID.out.c0; have k1 := HID.out.c1; have k2 := HID.out.f0; have k3 := HID.out.f1
    go_simp
    refine hK.out _ _ (lateC_1 (by rfl) (by rw [World.cell?_setCell_other _ _ _ _ (by simp)]; exact k1)) (fun hC8 hS8 => ?_)
    clear hK hC7 hS7 K
    try simp only [Go.Act.put, List.setIfInBounds_toArray, List.set_cons_zero, List.set_cons_succ]
    refine wpAnyS_ready (rs := [8]) (by kernel_rfl) (by simp) ?_
    refine AllReadyS.cons rfl hC8 (fun K hK => ?_) AllReadyS.nil
    go_simp
    refine hK.out _ _ (lateC_all (by rfl) (by rfl)) (fun hC9 hS9 => ?_)
    clear hK hC8 hS8 K
    try simp only [Go.Act.put, List.setIfInBounds_toArray, List.set_cons_zero, List.set_cons_succ]
    refine wpAnyS_done (by kernel_rfl) ?_ _
    clear hC9 hS9 k0 k1 k2 k3
    have hJ1 := HID.out.set (M + 1) (S + c)
    refine ⟨((HKO.out.trans (KeepsOthers.setCell _ _ _)).trans (KeepsOthers.setCell _ _ _)).from _, ⟨(HBL.out.setCell (Nat.le_refl _) _).setCell (by show _ ≤ w.heap.size + 1; omega) _, ?_, ?_⟩, ?_⟩
    · rw [Below.heap_setCell _ _ _ _ (by show _ ≠ w.heap.size + 1; omega), Below.heap_setCell _ _ _ _ (by show _ ≠ w.heap.size; omega), HHP.out]
    · rw [Below.heap_setCell _ _ _ _ (by show _ ≠ w.heap.size + 1; omega), Below.heap_setCell _ _ _ _ (by show _ ≠ w.heap.size; omega), HHP.out]
    · show HkS _ _ (foldH ls (pre ++ [_])) _
      rw [HF.out]; exact hJ1
  case done =>
    rintro D ys W hD hS hI hK
    have hfin : foldH ls ys = ⟨hmN ls ls.length, hsN ls ls.length⟩ := by unfold foldH; rw [hS]; exact hfold_is HV2.out _ (Nat.le_refl _)
    rw [hfin] at hI
    have HI := Lib.hid hI; have HK := Lib.hid hK
    have HBS := hs_bd HV2.out ls.length (Nat.le_refl _)
    have HR : Hid (hardV ls 0 m = (if hmN ls ls.length = 0 then 0 else (m : Int)) ∧ hardB ls 0 = !decide (hmN ls ls.length = 0)) := ⟨by unfold hardV; by_cases h : hmN ls ls.length = 0 <;> simp [h], by unfold hardB; by_cases h : hmN ls ls.length = 0 <;> simp [h]⟩
    clear hI hK hfin hS
    generalize hsN ls ls.length = S at *
    generalize hmN ls ls.length = M at *
    obtain ⟨hs1, m0, m1⟩ := HBS
    have k0 := HI.out.c0; have k1 := HI.out.c1
    by_cases hM : M = 0
    · have hr := HR.out
      rw [if_pos hM] at hr
      have HV1 : Hid (hardV ls 0 m = 0) := hr.1
      have HB1 : Hid (hardB ls 0 = false) := by show _ = _; rw [hr.2]; simp [hM]
      subst hM
      clear hr HR hs1 m0 m1 hm
      gi_wp2
      refine ⟨by simp, .inl ⟨_, _, rfl, run_takeDeferred HK.out, ?_⟩⟩
      refine ⟨.tuple #[.int .i64 0, .bool false, .int .i64 0], ?_, ⟨?_, HI.out.g.trans (belowK_b (w := w) (Nat.le_refl _) W D _ _ (by omega) HK.out rfl rfl)⟩⟩
      · simp [results, Try.results19, go_sem]
      · rw [HV1.out, HB1.out]
        try rfl
    · have hr := HR.out
      rw [if_neg hM] at hr
      have HV1 : Hid (hardV ls 0 m = (m : Int)) := hr.1
      have HB1 : Hid (hardB ls 0 = true) := by show _ = _; rw [hr.2]; simp [hM]
      have ht := hm.out hM
      have hq := mean_bd hs1 (by omega)
      obtain ⟨Q, hQ⟩ : ∃ Q, S.tdiv M = Q := ⟨_, rfl⟩
      rw [hQ] at hq ht
      have HT := Lib.hid ht
      have hM1 : (M == 0) = false := by simp [hM]
      obtain ⟨s0, s1⟩ := hs1
      have s2 : S ≤ 1000000000000000000 := by omega
      obtain ⟨q0, q1⟩ := hq
      clear hr HR hm ht s1
      gi_wp2_with (refine ⟨trivial, ?_⟩; gi_at_call 93; refine (callsIn_wide.2 (cubeRoot_is _ HT _)).mono ?_; rintro e w3 ⟨rfl, hg3⟩)
      have HG3 := Lib.hid hg3
      have hKD : w3.heap[D]? = some (.deferred (some [])) := (hg3.block D (Array.getElem?_eq_some_iff.1 HK.out).1 (by simp)).trans HK.out
      refine ⟨by simp, .inl ⟨_, _, rfl, run_takeDeferred hKD, ?_⟩⟩
      refine ⟨.tuple #[.int .i64 m, .bool true, .int .i64 0], ?_, ⟨?_, (HI.out.g.grown hg3 HI.out.g.size (fun k e => by cases e)).trans (belowK_b (w := w) (Nat.le_refl _) w3 D _ _ (by omega) hKD rfl rfl)⟩⟩
      · simp [results, Try.results19, go_sem]
      · rw [HV1.out, HB1.out]
        try rfl
  case stop =>
    rintro D c pre W _ _ h _
    exact h.elim
end Go.Proofs.Ytmfnphknoclhfaa
