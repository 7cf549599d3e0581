/- The contract of waysOf. -/
import Derived.Test.YtgkhhfojioepgaaTBridge
import Derived.Test.YtgkhhfojioepgaaBaseA
import Derived.Deep.OwnRows
namespace Go.Proofs.Ytgkhhfojioepgaa
open Go.RowKit Go.Shelf
set_option linter.unusedSimpArgs false
set_option linter.unusedVariables false

attribute [local go_sem] Oper.semAt_some

/-- How far was gone up to a sample. -/
noncomputable def wayN (ss : List Smp) : Nat → Int
  | 0 => 0
  | k + 1 => wayN ss k + stepW (smpD ss k) (smpD ss (k + 1))
/-- One step more is laid into the row. -/
noncomputable def layW (ss : List Smp) (F : Nat → Int) (k : Nat) : Nat → Int := updI F (k + 1) (F k + stepW (smpD ss k) (smpD ss (k + 1)))
noncomputable def rowW (ss : List Smp) (pre : List (StepNo ss)) : Nat → Int := pre.foldl (fun F x => layW ss F x.1) fun _ => 0
theorem rowW_snoc (ss : List Smp) (pre : List (StepNo ss)) (x : StepNo ss) : rowW ss (pre ++ [x]) = layW ss (rowW ss pre) x.1 := by simp [rowW]

theorem rowW_bd {ss : List Smp} (hp : ∀ x ∈ ss, inPlane x) : ∀ (pre : List (StepNo ss)) (F : Nat → Int), (∀ j, 0 ≤ F j ∧ F j ≤ j * 300000000) → ∀ j, 0 ≤ pre.foldl (fun F x => layW ss F x.1) F j ∧ pre.foldl (fun F x => layW ss F x.1) F j ≤ j * 300000000
  | [], F, h, j => h j
  | x :: r, F, h, j => by
    refine rowW_bd hp r (layW ss F x.1) (fun i => ?_) j
    unfold layW updI
    split
    · rename_i e
      have := h x.1
      have := stepW_bd (smpD_plane hp x.1) (smpD_plane hp (x.1 + 1))
      subst e
      omega
    · exact h i
theorem rowW_done {ss : List Smp} : ∀ (m : Nat) (pre : List (StepNo ss)), pre.map (·.1) = List.range m → ∀ j, j ≤ m → rowW ss pre j = wayN ss j := by
  intro m
  induction m with
  | zero =>
    intro pre h j hj
    have : pre = [] := List.eq_nil_of_length_eq_zero (by have := congrArg List.length h; rwa [List.length_map, List.length_range] at this)
    subst this
    obtain rfl : j = 0 := by omega
    rfl
  | succ m ih =>
    intro pre h j hj
    rcases List.eq_nil_or_concat pre with rfl | ⟨ini, x, rfl⟩
    · have := congrArg List.length h; rw [List.length_map, List.length_range] at this; simp at this
    · rw [List.concat_eq_append] at h ⊢
      rw [List.map_append, List.range_succ] at h
      have hx := List.append_inj_right' h rfl
      have hi := List.append_inj_left' h rfl
      simp only [List.map_cons, List.map_nil, List.cons.injEq, and_true] at hx
      rw [rowW_snoc, hx]
      unfold layW updI
      split
      · rename_i e
        subst e
        rw [ih ini hi m (Nat.le_refl _)]; rfl
      · exact ih ini hi j (by omega)

theorem block_kept {W W' : World} {row : Option Nat} {B : Nat} {o : Obj} (h : W.heap[B]? = some o) (hc : o.isCells = true) (hg : W.grownBy W' row) (hrow : ∀ r, row = some r → ∃ o : Obj, W.heap[r]? = some o ∧ o.isCells = false) : W'.heap[B]? = some o :=
  (hg.block B (Array.getElem?_eq_some_iff.1 h).1 (fun e => by
    obtain ⟨o', ho, hc'⟩ := hrow B e.symm
    rw [h] at ho; cases ho; rw [hc] at hc'; cases hc')).trans h
theorem row_own {β : Type} (g n : Nat) (F : β → Nat → Int) : Own (fun s W => W.heap[g]? = some (.cells (iRow n (F s)) 3 (0, 0))) := fun _ _ _ _ hs hg hr => block_kept (B := g) hs rfl hg hr
def stepC (ss : List Smp) (k : Nat) : Array Value :=
  #[.int .i64 k, .int .i64 (smpD ss k).t, .int .i64 (smpD ss k).x, .int .i64 (smpD ss k).y, .int .i64 (smpD ss k).z, .int .i64 (smpD ss k).p, .int .i64 (smpD ss k).q, .int .i64 (smpD ss k).s,
    .int .i64 (smpD ss (k + 1)).t, .int .i64 (smpD ss (k + 1)).x, .int .i64 (smpD ss (k + 1)).y, .int .i64 (smpD ss (k + 1)).z, .int .i64 (smpD ss (k + 1)).p, .int .i64 (smpD ss (k + 1)).q, .int .i64 (smpD ss (k + 1)).s]

set_option maxRecDepth 100000 in
set_option maxHeartbeats 4000000 in
theorem waysOf_any (ao : Option Addr) (cap : Nat) (ss : List Smp) (hl : (ss.length : Int) ≤ 20000) (w : World) (hs : SmpsAt w ao ss) (hao : ∀ a, ao = some a → ss ≠ [] → a.block < w.heap.size) (hp : ∀ x ∈ ss, inPlane x) :
    Calls Try.prog 109 #[.slice ao ss.length cap] w fun e w' => (e = .returned (.slice (some ⟨w.heap.size, 0, none⟩) ss.length ss.length) ∧ RowAt w' w.heap.size ss.length (wayN ss)) ∧ Below w.heap.size w w' := by
  have hll : ss.length ≤ 20000 := by omega
  have hmk := run_make_row' (P := Try.prog) 48 3 (.int .i64 0) 8 Try.underlying48 info_int rfl .i64 .i64 ss.length (by omega) (by omega)
  have HS := Lib.hid hs; have HAO := Lib.hid hao; have HP := Lib.hid hp
  clear hs hao hp
  refine (callsIn_wide (n := 4)).1 ?_
  refine callsIn_of_wp_marks Try.func109 rfl trivial ?_ rfl
  simp only [Try.ntmps109, List.size_toArray, List.length_cons, List.length_nil, Nat.reduceAdd, Nat.reduceSub, Array.replicate_succ, Array.replicate_zero, List.push_toArray, List.append_toArray, List.nil_append, List.cons_append]
  gi_wp2_with (refine ⟨trivial, ?_⟩; gi_at_call 111; refine (callsIn_wide.2 (steps_any _ _ _ _)).mono ?_; rintro e w' ⟨rfl, rfl⟩)
  have hn0 : w.heap.size ≤ w.heap.size := Nat.le_refl _
  obtain ⟨W0, hW0⟩ : ∃ W0, (((w.alloc (.cells (madeCells #[.int .i64 0] ss.length) 3)).alloc (.cells #[.slice (some ⟨w.heap.size, 0, none⟩) ss.length ss.length] 48)).alloc (.cells #[.slice ao ss.length cap] 22)) = W0 := ⟨_, rfl⟩
  have bR : W0.heap[w.heap.size]? = some (.cells (iRow ss.length (fun _ => 0)) 3 (0, 0)) := by
    rw [← hW0, Below.heap_alloc _ _ _ (by simp; omega), Below.heap_alloc _ _ _ (by simp), ← iRow_zero]; exact World.alloc_heap_new w _
  have bV : Boxed W0 (w.heap.size + 1) 48 (.slice (some ⟨w.heap.size, 0, none⟩) ss.length ss.length) := by
    rw [← hW0]
    have := (Boxed.new (w.alloc (.cells (madeCells #[.int .i64 0] ss.length) 3)) 48 (.slice (some ⟨w.heap.size, 0, none⟩) ss.length ss.length)).alloc (.cells #[.slice ao ss.length cap] 22)
    simpa using this
  have bS : Boxed W0 (w.heap.size + 1 + 1) 22 (.slice ao ss.length cap) := by
    rw [← hW0]
    have := Boxed.new ((w.alloc (.cells (madeCells #[.int .i64 0] ss.length) 3)).alloc (.cells #[.slice (some ⟨w.heap.size, 0, none⟩) ss.length ss.length] 48)) 22 (.slice ao ss.length cap)
    simpa using this
  have hB0 : Below w.heap.size w W0 := by
    rw [← hW0]; exact (((Below.refl _ w).alloc (Nat.le_refl _) _).alloc (by simp) _).alloc (by simp; omega) _
  have hsz : W0.heap.size = w.heap.size + 3 := by rw [← hW0]; simp
  have hs0 : SmpsAt W0 ao ss := HS.out.grown (grown_below hB0)
  rw [hW0]
  clear hW0
  refine wpIn_rangeFunc_ownH (α := StepNo ss) rfl (by omega) (gf := 148) (lb := #[.pointer (some ⟨w.heap.size + 1 + 1, 0, none⟩)]) rfl trivial (enters_of Try.func148 (by kernel_rfl) rfl)
    (encs := fun x => #[stepV ss x.1]) (Kp := KpB w.heap.size (w.heap.size + 1 + 1)) (S := fun ys => ys.map (·.1) = List.range (ss.length - 1)) (Sp := fun _ => True) (N := ss.length) (w0 := W0) ?seq kpB_t ?kb (Below.refl _ _) (fun _ => rfl)
    (fun pre W => ((Boxed W (w.heap.size + 1) 48 (.slice (some ⟨w.heap.size, 0, none⟩) ss.length ss.length) ∧ Boxed W (w.heap.size + 1 + 1) 22 (.slice ao ss.length cap)) ∧ W.heap[w.heap.size]? = some (.cells (iRow ss.length (rowW ss pre)) 3 (0, 0))) ∧ Below w.heap.size w W)
    (fun _ _ _ => False)
    (OwnFrom.and (OwnFrom.and (OwnFrom.and (Own.from (boxed_own _ _ _) _) (Own.from (boxed_own _ _ _) _)) (Own.from (row_own _ _ (rowW ss)) _)) (ownFrom_below (Nat.le_refl _) (by omega)))
    (fun _ _ _ _ _ hs _ _ => hs)
    ⟨⟨⟨bV, bS⟩, bR⟩, hB0⟩
    (fun x a' W => ∃ Bx, w.heap.size + 2 < Bx ∧ W.heap[Bx]? = some (.cells (stepC ss x.1) 85 (0, 0)) ∧ a' = { tmps := #[.slice ao ss.length cap, undef, .slice none 0 0, .pointer (some ⟨w.heap.size + 1, 0, none⟩), .pointer (some ⟨Bx, 0, none⟩), .slice ao ss.length cap, .int .i64 ss.length, .slice (some ⟨w.heap.size, 0, none⟩) ss.length ss.length, .slice ao ss.length cap, .func (.func 148) #[] #[.pointer (some ⟨w.heap.size + 1 + 1, 0, none⟩)], stepV ss x.1, undef, undef, undef, undef, undef, undef, undef, undef, undef, undef, undef, undef, undef, undef], defers := [] })
    (fun x a' _ X Y row hs hg hr => by obtain ⟨Bx, h1, h2, h3⟩ := hs; exact ⟨Bx, h1, block_kept h2 rfl hg (fun r e => (hr r e).2), h3⟩)
    ?assign ?body ?done ?stop
  case seq =>
    intro l J Jx W hW hJ _ hY h0
    have hbW : W.heap[w.heap.size + 1 + 1]? = W0.heap[w.heap.size + 1 + 1]? := hW.block _ (by omega)
    refine (steps1_in 3 (by omega) l (w.heap.size + 1 + 1) w.heap.size ao cap ss hl HAO.out J Jx (fun pre V m hj => hJ pre V _ none hj (grown_drewN V none m) (fun r h => by cases h)) hY W ((World.cell?_of_block (a := ⟨w.heap.size + 1 + 1, 0, none⟩) hbW).trans bS.cell) (hs0.grown (grown_below hW)) h0).mono ?_
    rintro e W' ⟨he, h | ⟨pre, _, hj⟩⟩
    · exact ⟨he, .inl h⟩
    · exact ⟨he, .inr ⟨pre, trivial, hj⟩⟩
  case kb =>
    intro W l o o' hlW ho hc hwk
    exact ⟨belowK_b (w := W0) (by omega) W l o o' hlW ho hc hwk, World.putObj_heap_other (by omega)⟩
  case assign =>
    rintro l pre x W K ⟨⟨⟨bV1, bS1⟩, bR1⟩, hB1⟩ hK
    unfold stepV at *
    gi_wp2
    have hnb := bS1.lt
    refine hK _ _ ((KeepsOthers.alloc _ _).from _) ⟨(Below.refl _ W).alloc hB1.size _, ?_⟩ ⟨⟨⟨bV1.alloc _, bS1.alloc _⟩, (Below.heap_alloc _ _ _ (lt_of_block bR1)).trans bR1⟩, hB1.alloc hB1.size _⟩ ⟨W.heap.size, ?_, World.alloc_heap_new W _, rfl⟩
    · exact Below.heap_alloc _ _ _ hnb
    · omega
  case body =>
    rintro l pre x a' W hlr ⟨r, hr⟩ ⟨⟨⟨bV1, bS1⟩, bR1⟩, hB1⟩ ⟨Bx, hBx, bX, rfl⟩ hlt
    obtain ⟨k, hk⟩ : ∃ k, x.1 = k := ⟨_, rfl⟩
    have hkl : k + 1 < ss.length := by rw [← hk]; exact x.2
    rw [hk] at bX
    have hb0 := rowW_bd HP.out pre (fun _ => 0) (fun j => by omega) k
    obtain ⟨Fk, hFk⟩ : ∃ v, rowW ss pre k = v := ⟨_, rfl⟩
    have hb : 0 ≤ Fk ∧ Fk ≤ k * 300000000 := by rw [← hFk]; exact hb0
    have hsw := stepW_bd (smpD_plane HP.out k) (smpD_plane HP.out (k + 1))
    obtain ⟨wk, hwk⟩ : ∃ v, stepW (smpD ss k) (smpD ss (k + 1)) = v := ⟨_, rfl⟩
    rw [hwk] at hsw
    have HWK := Lib.hid hwk
    have cR : W.cell? ⟨w.heap.size, k, none⟩ = some (.int .i64 Fk) := by rw [← hFk]; exact RowAt.cell (n := ss.length) bR1 (by omega)
    have cX : ∀ (i : Nat) (v : Value), (stepC ss k)[i]? = some v → W.cell? ⟨Bx, i, none⟩ = some v := fun i v h => by
      simp [World.cell?, bX, h]
    have HC : Hid (∀ V, (W.drew.grownBy V (some w.heap.size) ∧ V.cell? ⟨w.heap.size, k, none⟩ = some (.int .i64 Fk)) → V.cell? ⟨w.heap.size + 1, 0, none⟩ = some (.slice (some ⟨w.heap.size, 0, none⟩) ss.length ss.length) ∧ V.cell? ⟨w.heap.size, k, none⟩ = some (.int .i64 Fk) ∧ V.cell? ⟨Bx, 0, none⟩ = some (.int .i64 k) ∧ V.cell? ⟨Bx, 1, none⟩ = some (.int .i64 (smpD ss k).t) ∧ V.cell? ⟨Bx, 2, none⟩ = some (.int .i64 (smpD ss k).x) ∧ V.cell? ⟨Bx, 3, none⟩ = some (.int .i64 (smpD ss k).y) ∧ V.cell? ⟨Bx, 4, none⟩ = some (.int .i64 (smpD ss k).z) ∧ V.cell? ⟨Bx, 5, none⟩ = some (.int .i64 (smpD ss k).p) ∧ V.cell? ⟨Bx, 6, none⟩ = some (.int .i64 (smpD ss k).q) ∧ V.cell? ⟨Bx, 7, none⟩ = some (.int .i64 (smpD ss k).s) ∧ V.cell? ⟨Bx, 8, none⟩ = some (.int .i64 (smpD ss (k + 1)).t) ∧ V.cell? ⟨Bx, 9, none⟩ = some (.int .i64 (smpD ss (k + 1)).x) ∧ V.cell? ⟨Bx, 10, none⟩ = some (.int .i64 (smpD ss (k + 1)).y) ∧ V.cell? ⟨Bx, 11, none⟩ = some (.int .i64 (smpD ss (k + 1)).z) ∧ V.cell? ⟨Bx, 12, none⟩ = some (.int .i64 (smpD ss (k + 1)).p) ∧ V.cell? ⟨Bx, 13, none⟩ = some (.int .i64 (smpD ss (k + 1)).q) ∧ V.cell? ⟨Bx, 14, none⟩ = some (.int .i64 (smpD ss (k + 1)).s)) := fun V hV => by
      have keep : ∀ (b i : Nat) (v : Value), b ≠ w.heap.size → W.cell? ⟨b, i, none⟩ = some v → V.cell? ⟨b, i, none⟩ = some v := fun b i v hne h => hV.1.cell (w := W.drew) h (fun e => hne (by injection e))
      exact ⟨keep _ _ _ (by omega) bV1.cell, hV.2, keep _ _ _ (by omega) (cX 0 _ rfl), keep _ _ _ (by omega) (cX 1 _ rfl), keep _ _ _ (by omega) (cX 2 _ rfl), keep _ _ _ (by omega) (cX 3 _ rfl), keep _ _ _ (by omega) (cX 4 _ rfl), keep _ _ _ (by omega) (cX 5 _ rfl), keep _ _ _ (by omega) (cX 6 _ rfl), keep _ _ _ (by omega) (cX 7 _ rfl), keep _ _ _ (by omega) (cX 8 _ rfl), keep _ _ _ (by omega) (cX 9 _ rfl), keep _ _ _ (by omega) (cX 10 _ rfl), keep _ _ _ (by omega) (cX 11 _ rfl), keep _ _ _ (by omega) (cX 12 _ rfl), keep _ _ _ (by omega) (cX 13 _ rfl), keep _ _ _ (by omega) (cX 14 _ rfl)⟩
    have hS0 : (W.drew.grownBy W.drew (some w.heap.size) ∧ W.drew.cell? ⟨w.heap.size, k, none⟩ = some (.int .i64 Fk)) := ⟨World.grownBy.refl _ _, cR⟩
    obtain ⟨k1, hk1⟩ : ∃ k1, k1 = k + 1 := ⟨_, rfl⟩
    have HK1 := Lib.hid hk1
    have ek : (k : Int) + 1 = (k1 : Int) := by omega
    have rk : IntKind.i64.wrap (k : Int) = (k : Int) := IntWalk.i64_in _ (by omega)
    have rk1 : IntKind.i64.wrap (k1 : Int) = (k1 : Int) := IntWalk.i64_in _ (by omega)
    have k1l : (k1 : Int) < (ss.length : Int) := by omega
    have kl : (k : Int) < (ss.length : Int) := by omega
    have k1n : k1 < ss.length := by omega
    have kn : k < ss.length := by omega
    have KX := Lib.hid bX; have KV := Lib.hid bV1; have KR := Lib.hid bR1; have KB := Lib.hid hB1; have KS := Lib.hid bS1; have KF := Lib.hid hFk; have KCR := Lib.hid cR; have KLR := Lib.hid hr
    have KB0 := Lib.hid hb; have KSW := Lib.hid hsw; have KHX := Lib.hid hBx; have KK := Lib.hid hk; have HM := Lib.hid hmk
    have hmx : Try.prog.follows .mixedOrders = true := by kernel_rfl
    unfold stepV
    rw [hk]
    clear bX bV1 bR1 hB1 bS1 hFk cR hr hb hb0 hsw hBx cX hwk hs0 hB0 bV bR bS hk1 hlt hlr hk hmk
    gi_wp2
    refine region_in_round (S := fun V => (W.drew.grownBy V (some w.heap.size) ∧ V.cell? ⟨w.heap.size, k, none⟩ = some (.int .i64 Fk))) hmx (by kernel_rfl) (fun ⟨_, _, h⟩ => h) hS0 (fun hHeld => ?_)
    clear hS0 hmx
    refine wpAnyH_take (i := 0) (v := .slice (some ⟨w.heap.size, 0, none⟩) ss.length ss.length) rfl (by kernel_rfl) (by kernel_rfl) (by kernel_rfl) (fun _ _ _ h => h) (Or.inl ⟨by rfl, fun V hV => ?_⟩) hHeld ?_
    · have q1 := (HC.out V hV).1
      clear hV
      go_simp
    simp only [Go.Act.put, List.setIfInBounds_toArray]
    refine wpAnyH_take (i := 1) (v := .pointer (some ⟨Bx, 0, none⟩)) rfl (by kernel_rfl) (by kernel_rfl) (by kernel_rfl) (fun _ _ _ h => h) (Or.inl ⟨by rfl, fun V hV => ?_⟩) hHeld ?_
    · clear hV
      go_simp
    simp only [Go.Act.put]
    refine wpAnyH_take (i := 2) (v := .int .i64 (k : Int)) rfl (by kernel_rfl) (by kernel_rfl) (by kernel_rfl) (fun _ _ _ h => h) (Or.inl ⟨by rfl, fun V hV => ?_⟩) hHeld ?_
    · have q1 := (HC.out V hV).2.2.1
      clear hV
      go_simp
    simp only [Go.Act.put]
    refine wpAnyH_take (i := 3) (v := .int .i64 (k1 : Int)) rfl (by kernel_rfl) (by kernel_rfl) (by kernel_rfl) (fun _ _ _ h => h) (Or.inl ⟨by rfl, fun V hV => ?_⟩) hHeld ?_
    · clear hV
      go_simp
    simp only [Go.Act.put]
    refine wpAnyH_take (i := 4) (v := .slice (some ⟨w.heap.size, 0, none⟩) ss.length ss.length) rfl (by kernel_rfl) (by kernel_rfl) (by kernel_rfl) (fun _ _ _ h => h) (Or.inl ⟨by rfl, fun V hV => ?_⟩) hHeld ?_
    · have q1 := (HC.out V hV).1
      clear hV
      go_simp
    simp only [Go.Act.put]
    refine wpAnyH_take (i := 5) (v := .pointer (some ⟨Bx, 0, none⟩)) rfl (by kernel_rfl) (by kernel_rfl) (by kernel_rfl) (fun _ _ _ h => h) (Or.inl ⟨by rfl, fun V hV => ?_⟩) hHeld ?_
    · clear hV
      go_simp
    simp only [Go.Act.put]
    refine wpAnyH_take (i := 6) (v := .int .i64 (k : Int)) rfl (by kernel_rfl) (by kernel_rfl) (by kernel_rfl) (fun _ _ _ h => h) (Or.inl ⟨by rfl, fun V hV => ?_⟩) hHeld ?_
    · have q1 := (HC.out V hV).2.2.1
      clear hV
      go_simp
    simp only [Go.Act.put]
    refine wpAnyH_take (i := 7) (v := .pointer (some ⟨w.heap.size, k, none⟩)) rfl (by kernel_rfl) (by kernel_rfl) (by kernel_rfl) (fun _ _ _ h => h) (Or.inl ⟨by rfl, fun V hV => ?_⟩) hHeld ?_
    · clear hV
      go_simp
    simp only [Go.Act.put]
    refine wpAnyH_take (i := 8) (v := .int .i64 Fk) rfl (by kernel_rfl) (by kernel_rfl) (by kernel_rfl) (fun _ _ _ h => h) (Or.inl ⟨by rfl, fun V hV => ?_⟩) hHeld ?_
    · have q1 := (HC.out V hV).2.1
      clear hV
      go_simp
    simp only [Go.Act.put]
    refine wpAnyH_take (i := 9) (v := .agg #[.int .i64 k, .int .i64 (smpD ss k).t, .int .i64 (smpD ss k).x, .int .i64 (smpD ss k).y, .int .i64 (smpD ss k).z, .int .i64 (smpD ss k).p, .int .i64 (smpD ss k).q, .int .i64 (smpD ss k).s, .int .i64 (smpD ss (k + 1)).t, .int .i64 (smpD ss (k + 1)).x, .int .i64 (smpD ss (k + 1)).y, .int .i64 (smpD ss (k + 1)).z, .int .i64 (smpD ss (k + 1)).p, .int .i64 (smpD ss (k + 1)).q, .int .i64 (smpD ss (k + 1)).s]) rfl (by kernel_rfl) (by kernel_rfl) (by kernel_rfl) (fun _ _ _ h => h) (Or.inl ⟨by rfl, fun V hV => ?_⟩) hHeld ?_
    · obtain ⟨_, _, v0, v1, v2, v3, v4, v5, v6, v7, v8, v9, v10, v11, v12, v13, v14⟩ := HC.out V hV
      clear hV
      go_simp
    simp only [Go.Act.put]
    refine wpAnyH_ready (rs := [10]) (by kernel_rfl) (by simp) ?_
    refine AllReadyH.cons rfl (fun K hK => ?_) AllReadyH.nil
    go_simp
    refine (way_is (k : Int) (smpD ss k) (smpD ss (k + 1)) (smpD_plane HP.out k) (smpD_plane HP.out (k + 1)) _ HWK).mono ?_
    rintro e w1 ⟨rfl, hg1⟩
    have hR1 : RowAt w1 w.heap.size ss.length (rowW ss pre) := RowAt.grown (w := W.drew) KR.out hg1
    have hS1 : (W.drew.grownBy w1 (some w.heap.size) ∧ w1.cell? ⟨w.heap.size, k, none⟩ = some (.int .i64 Fk)) := ⟨⟨hg1.os, hg1.tape, hg1.output, hg1.size, fun i hi _ => hg1.block i hi (by simp)⟩, grown_cell hg1 KCR.out⟩
    refine hK.out _ _ hS1 (fun hHeld1 => ?_)
    have b0 : 0 ≤ Fk := KB0.out.1
    have b1 : Fk ≤ 6000000000000 := by have := KB0.out.2; omega
    have b2 : 0 ≤ wk := KSW.out.1
    have b3 : wk ≤ 300000000 := KSW.out.2
    have rs : IntKind.i64.wrap (Fk + wk) = Fk + wk := IntWalk.i64_in _ (by omega)
    have HG1 := Lib.hid hg1; have HR1 := Lib.hid hR1
    have cS := hR1.cell (k := k1) k1n
    have fS := hR1.free k1
    clear hK hS1 hR1 hg1
    refine wpAnyH_take (i := 11) (v := .int .i64 (Fk + wk)) rfl (by kernel_rfl) (by kernel_rfl) (by kernel_rfl) (fun _ _ _ h => h) (Or.inl ⟨by rfl, fun V hV => ?_⟩) hHeld1 ?_
    · clear hV
      go_simp
    simp only [Go.Act.put, List.setIfInBounds_toArray]
    refine wpAnyH_take (i := 12) (v := .pointer (some ⟨w.heap.size, k1, none⟩)) rfl (by kernel_rfl) (by kernel_rfl) (by kernel_rfl) (fun _ _ _ h => h) (Or.inl ⟨by rfl, fun V hV => ?_⟩) hHeld1 ?_
    · clear hV
      go_simp
    simp only [Go.Act.put]
    refine wpAnyH_ready (rs := [13]) (by kernel_rfl) (by simp) ?_
    refine AllReadyH.cons rfl (fun K hK => ?_) AllReadyH.nil
    go_simp
    refine hK.out _ _ ⟨?_, ?_⟩ (fun _ => ?_)
    · exact ⟨hHeld1.1.os, hHeld1.1.tape, hHeld1.1.output, Nat.le_trans hHeld1.1.size (by simp [World.setCell]), fun i hi hne => by
        rw [Below.heap_setCell _ _ _ _ (fun e => hne (by rw [e]))]; exact hHeld1.1.block i hi hne⟩
    · rw [World.cell?_setCell_other _ _ _ _ (fun e => by injection e with _ e2 _; have := HK1.out; omega)]; exact hHeld1.2
    refine wpAnyH_done (by kernel_rfl) ?_ _
    have hb01 : Below w.heap.size W.drew w1 := (below_grown HG1.out).mono (by have := KV.out.lt; show _ ≤ W.heap.size; omega)
    refine ⟨?_, ⟨?_, ?_⟩, ⟨⟨?_, ?_⟩, ?_⟩, ?_⟩
    · exact (((KeepsOthers.drew W).trans (KeepsOthers.of_grownBy HG1.out (fun j o e => by cases e))).trans (KeepsOthers.setCell _ _ _)).from _
    · exact (((Below.refl _ W).drew).trans hb01).setCell (p := ⟨w.heap.size, k1, none⟩) (Nat.le_refl _) _
    · rw [Below.heap_setCell _ _ _ _ (by show _ ≠ w.heap.size; omega), HG1.out.block _ (by show _ < W.heap.size; exact KS.out.lt) (by simp)]; rfl
    · show (w1.setCell _ _).heap[_]? = _
      rw [Below.heap_setCell _ _ _ _ (by show _ ≠ w.heap.size; omega)]; exact Boxed.kept (W := W.drew) KV.out HG1.out (by simp)
    · show (w1.setCell _ _).heap[_]? = _
      rw [Below.heap_setCell _ _ _ _ (by show _ ≠ w.heap.size; omega)]; exact Boxed.kept (W := W.drew) KS.out HG1.out (by simp)
    · have q := HR1.out.set k1 (Fk + wk)
      rw [rowW_snoc, KK.out]
      unfold layW
      rw [KF.out, HWK.out, ← HK1.out]
      exact q
    · exact (KB.out.trans (((Below.refl _ W).drew).trans hb01)).setCell (p := ⟨w.heap.size, k1, none⟩) (Nat.le_refl _) _
  case done =>
    rintro D ys W hD hS ⟨⟨⟨bV1, bS1⟩, bR1⟩, hB1⟩ hK
    have cV := bV1.cell
    gi_wp2
    refine ⟨by simp, .inl ⟨_, _, rfl, run_takeDeferred hK, ?_⟩⟩
    refine ⟨_, results_tmp rfl _ _ _, ⟨rfl, ?_⟩, hB1.trans (belowK_b (w := w) (Nat.le_refl _) W D _ _ (by omega) hK rfl rfl)⟩
    show (W.putObj D _).heap[w.heap.size]? = _
    rw [World.putObj_heap_other (by omega), bR1, iRow_congr (fun j hj => rowW_done (ss.length - 1) ys hS j (by omega))]
  case stop =>
    rintro D c pre W _ _ h _
    exact h.elim

end Go.Proofs.Ytgkhhfojioepgaa
