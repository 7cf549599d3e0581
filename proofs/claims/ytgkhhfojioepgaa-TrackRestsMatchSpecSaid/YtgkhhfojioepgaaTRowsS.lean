/- The contract of rows, where what is meant is told by harrier/track.Still$1: the walk. -/
import Derived.Test.YtgkhhfojioepgaaTRowB
namespace Go.Proofs.Ytgkhhfojioepgaa
open Go.RowKit Go.Shelf
set_option linter.unusedSimpArgs false
set_option linter.unusedVariables false

attribute [local go_sem] Oper.semAt_some
set_option maxRecDepth 100000 in
set_option maxHeartbeats 8000000 in
theorem rowsS_is (so : Option Addr) (sc : Nat) (ss : List Smp) (least : Int) (cb : Array Value) (M : Nat → Bool) (l0 : 1 ≤ least) (l1 : least ≤ 1000000) (w : World)
    (HSA : Hid (SmpsAt w so ss)) (HS : Hid (SOk ss)) (HM : Hid (∀ k, k + 1 < ss.length → ∀ W, w.grownBy W none → Calls Try.prog 73 (#[stepV ss k] ++ cb) W fun e W' => e = .returned (.bool (M k)) ∧ W.grownBy W' none)) :
    Calls Try.prog 71 #[.slice so ss.length sc, .int .i64 least, .func (.func 73) #[] cb] w fun x w' => (∃ v, x = .returned v ∧ w'.ownsRow w.heap.size 45 2 v (restL (tmS ss) M least (ss.length - 1)).length ((restL (tmS ss) M least (ss.length - 1)).flatMap spCs)) ∧ w.grownBy w' none := by
  have hl : (ss.length : Int) ≤ 20000 := HS.out.len
  obtain ⟨i0, hi, hz0, hz1, hz2⟩ := info_parts zero_sp
  have HI0 := Lib.hid hi; have HZ0 := Lib.hid hz0; have HZ1 := Lib.hid hz1; have HZ2 := Lib.hid hz2
  clear hi hz0 hz1 hz2
  refine (callsIn_wide (n := 4)).1 ?_
  refine callsIn_of_wp_marks Try.func71 rfl trivial ?_ rfl
  simp only [Try.ntmps71, List.size_toArray, List.length_cons, List.length_nil, Nat.reduceAdd, Nat.reduceSub, Array.replicate_succ, Array.replicate_zero, List.push_toArray, List.append_toArray, List.nil_append, List.cons_append]
  have hmx : Try.prog.follows .mixedOrders = true := by kernel_rfl
  gi_wp2_with (refine ⟨trivial, ?_⟩; gi_at_call 111; refine (callsIn_wide.2 (steps_any _ _ _ _)).mono ?_; rintro e w' ⟨rfl, rfl⟩)
  obtain ⟨W0, hW0⟩ : ∃ W0, (((w.alloc (.cells #[.int .i64 least] 3)).alloc (.cells #[.func (.func 73) #[] cb] 87)).alloc (.cells #[.slice none 0 0] 37)).alloc (.cells #[.slice so ss.length sc] 22) = W0 := ⟨_, rfl⟩
  have hB0 : RwB w (.slice so ss.length sc) least (.func (.func 73) #[] cb) (.slice none 0 0) W0 := by rw [← hW0]; exact rwB_new w _ _ _
  have hsz0 : W0.heap.size = w.heap.size + 4 := by rw [← hW0]; simp
  have hs0 : SmpsAt W0 so ss := HSA.out.grown (grown_below hB0.b)
  have HAO := Lib.hid HSA.out.block
  have HS0 := Lib.hid hs0; have HB0 := Lib.hid hB0; have HSZ0 := Lib.hid hsz0
  have hss : ∀ W : World, W.heap.size + 1 + 1 + 1 = W.heap.size + 3 := fun _ => rfl
  try rw [hW0]
  clear hW0 hB0 hs0 hss
  refine wpIn_rangeFunc_ownH (α := StepNo ss) rfl (by omega) (gf := 148) (lb := #[.pointer (some ⟨w.heap.size + 1 + 1 + 1, 0, none⟩)]) rfl trivial (enters_of Try.func148 (by kernel_rfl) rfl)
    (encs := fun x => #[stepV ss x.1]) (Kp := KpB w.heap.size (w.heap.size + 3)) (S := fun ys => ys.map (·.1) = List.range (ss.length - 1)) (Sp := fun pre => ∃ k, k < ss.length ∧ pre.map (·.1) = List.range k) (N := ss.length) (w0 := W0) ?seq kpB_t ?kb (Below.refl _ _) (fun _ => rfl)
    (fun pre W => ∃ v, RwB w (.slice so ss.length sc) least (.func (.func 73) #[] cb) v W ∧ W.ownsRow (w.heap.size + 4) 45 2 v (rP M pre).length ((rP M pre).flatMap spCs))
    (fun _ _ _ => False)
    (fun pre X Y row hs hg hr => by
      obtain ⟨v, h1, h2⟩ := hs
      exact ⟨v, h1.own (by rw [hsz0] at hr; exact Nat.le_add_right _ 4) hg (fun r e => ⟨by have := (hr r e).1; omega, (hr r e).2⟩), own_cells h2 hg (fun r e => (hr r e).2)⟩)
    (fun c pre X Y row hs hg hr => hs.elim)
    ⟨.slice none 0 0, HB0.out, World.ownsRow_nil _ _ _ _⟩
    (fun x a' W => ∃ Bx, W0.heap.size ≤ Bx ∧ W.heap[Bx]? = some (.cells (stepC ss x.1) 85 (0, 0)) ∧ a' = { tmps := (.slice so ss.length sc :: .int .i64 least :: .func (.func 73) #[] cb :: undef :: .pointer (some ⟨w.heap.size, 0, none⟩) :: .pointer (some ⟨w.heap.size + 1, 0, none⟩) :: .slice none 0 0 :: .pointer (some ⟨w.heap.size + 1 + 1, 0, none⟩) :: .pointer (some ⟨Bx, 0, none⟩) :: undef :: .slice so ss.length sc :: .func (.func 148) #[] #[.pointer (some ⟨w.heap.size + 1 + 1 + 1, 0, none⟩)] :: stepV ss x.1 :: undef :: undef :: undef :: undef :: undef :: undef :: undef :: undef :: undef :: undef :: undef :: undef :: undef :: undef :: undef :: undef :: undef :: undef :: undef :: undef :: undef :: undef :: undef :: undef :: undef :: undef :: undef :: undef :: undef :: undef :: undef :: undef :: undef :: undef :: undef :: undef :: undef :: undef :: undef :: undef :: undef :: undef :: undef :: undef :: []).toArray, defers := [] })
    (fun x a' _ X Y row hs hg hr => by obtain ⟨Bx, h1, h2, h3⟩ := hs; exact ⟨Bx, h1, block_kept h2 rfl hg (fun r e => (hr r e).2), h3⟩)
    ?assign ?body ?done ?stop
  case seq =>
    intro l J Jx W hW hJ _ hY h0
    have hbW : W.heap[w.heap.size + 3]? = W0.heap[w.heap.size + 3]? := hW.block _ (by omega)
    refine (steps1_in 3 (by omega) l (w.heap.size + 3) w.heap.size so sc ss hl HAO.out J Jx (fun pre V m hj => hJ pre V _ none hj (grown_drewN V none m) (fun r h => by cases h)) hY W ((World.cell?_of_block (a := ⟨w.heap.size + 3, 0, none⟩) hbW).trans HB0.out.s.cell) (HS0.out.grown (grown_below hW)) h0).mono ?_
    rintro e W' ⟨he, h | ⟨pre, hk, hj⟩⟩
    · exact ⟨he, .inl h⟩
    · exact ⟨he, .inr ⟨pre, hk, hj⟩⟩
  case kb =>
    intro W l o o' hlW ho hc hwk
    exact ⟨belowK_b (w := W0) (by omega) W l o o' hlW ho hc hwk, World.putObj_heap_other (by omega)⟩
  case assign =>
    rintro l pre x W K ⟨v, hB1, hO1⟩ hK
    unfold stepV at *
    gi_wp2
    have hls := hB1.s.lt
    refine hK _ _ ((KeepsOthers.alloc _ _).from _) ⟨(Below.refl _ W).alloc hB1.b.size _, ?_⟩ ⟨v, hB1.grown (World.grownBy_alloc _ _ none) (fun r e => by cases e), own_cells hO1 (World.grownBy_alloc _ _ none) (fun r e => by cases e)⟩ ⟨W.heap.size, by omega, World.alloc_heap_new W _, rfl⟩
    exact Below.heap_alloc _ _ _ hls
  case stop => rintro D c pre W hD _ h; exact h.elim
  case body =>
    rintro l pre x a' W hlr ⟨r, hr⟩ ⟨v, hB, hO⟩ ⟨Bx, hBx, bX, rfl⟩ hlt
    obtain ⟨k, hk⟩ : ∃ k, x.1 = k := ⟨_, rfl⟩
    have hkl : k + 1 < ss.length := by rw [← hk]; exact x.2
    have hsn := rP_snoc M pre x
    rw [hk] at bX hsn
    have hin0 := HS.out.inn k (by omega); have hin1 := HS.out.inn (k + 1) hkl
    have bt0 : 0 ≤ (smpD ss k).t ∧ (smpD ss k).t ≤ 1000000 := ⟨hin0.1, hin0.2.1⟩
    have bt1 : 0 ≤ (smpD ss (k + 1)).t ∧ (smpD ss (k + 1)).t ≤ 1000000 := ⟨hin1.1, hin1.2.1⟩
    have hcall := HM.out k hkl W (grown_below hB.b)
    have hll : (rP M pre).length ≤ pre.length := rP_len M pre
    obtain ⟨q, hq⟩ : ∃ q, M k = q := ⟨_, rfl⟩
    rw [hq] at hsn hcall
    obtain ⟨L, hL⟩ : ∃ L, rP M pre = L := ⟨_, rfl⟩
    rw [hL] at hsn hO hll
    have hL20 : L.length ≤ 20000 := by omega
    have HSN := Lib.hid hsn; have HC := Lib.hid hcall; have HX := Lib.hid bX; have HB := Lib.hid hB; have HO := Lib.hid hO; have HBX := Lib.hid hBx
    unfold stepV at *
    rw [hk]
    obtain ⟨x0, x1, x2, x3, x4, x5, x6, x7, x8, x9, x10, x11, x12, x13, x14⟩ : W.cell? ⟨Bx, 0, none⟩ = some (.int .i64 k) ∧ W.cell? ⟨Bx, 1, none⟩ = some (.int .i64 (smpD ss k).t) ∧ W.cell? ⟨Bx, 2, none⟩ = some (.int .i64 (smpD ss k).x) ∧ W.cell? ⟨Bx, 3, none⟩ = some (.int .i64 (smpD ss k).y) ∧ W.cell? ⟨Bx, 4, none⟩ = some (.int .i64 (smpD ss k).z) ∧ W.cell? ⟨Bx, 5, none⟩ = some (.int .i64 (smpD ss k).p) ∧ W.cell? ⟨Bx, 6, none⟩ = some (.int .i64 (smpD ss k).q) ∧ W.cell? ⟨Bx, 7, none⟩ = some (.int .i64 (smpD ss k).s) ∧ W.cell? ⟨Bx, 8, none⟩ = some (.int .i64 (smpD ss (k + 1)).t) ∧ W.cell? ⟨Bx, 9, none⟩ = some (.int .i64 (smpD ss (k + 1)).x) ∧ W.cell? ⟨Bx, 10, none⟩ = some (.int .i64 (smpD ss (k + 1)).y) ∧ W.cell? ⟨Bx, 11, none⟩ = some (.int .i64 (smpD ss (k + 1)).z) ∧ W.cell? ⟨Bx, 12, none⟩ = some (.int .i64 (smpD ss (k + 1)).p) ∧ W.cell? ⟨Bx, 13, none⟩ = some (.int .i64 (smpD ss (k + 1)).q) ∧ W.cell? ⟨Bx, 14, none⟩ = some (.int .i64 (smpD ss (k + 1)).s) := ⟨step_cells bX 0 _ rfl, step_cells bX 1 _ rfl, step_cells bX 2 _ rfl, step_cells bX 3 _ rfl, step_cells bX 4 _ rfl, step_cells bX 5 _ rfl, step_cells bX 6 _ rfl, step_cells bX 7 _ rfl, step_cells bX 8 _ rfl, step_cells bX 9 _ rfl, step_cells bX 10 _ rfl, step_cells bX 11 _ rfl, step_cells bX 12 _ rfl, step_cells bX 13 _ rfl, step_cells bX 14 _ rfl⟩
    have cm := hB.m.cell
    clear hk hr hlt hlr hsn hin0 hin1 bX hB hO hcall hq hL hll hBx
    gi_wp2
    refine ⟨trivial, CallsIn.inRound l (callsIn_wide.2 (HC.out.mono ?_))⟩
    rintro e w2 ⟨rfl, hg2⟩
    clear x0 x1 x2 x3 x4 x5 x6 x7 x8 x9 x10 x11 x12 x13 x14 cm
    have HB2 := Lib.hid (HB.out.grown hg2 (fun r e => by cases e))
    have HO2 := Lib.hid (own_cells HO.out hg2 (fun r e => by cases e))
    have HX2 : Hid (w2.heap[Bx]? = some (.cells (stepC ss k) 85 (0, 0))) := (hg2.block _ (lt_of_block HX.out) (by simp)).trans HX.out
    have HKO : Hid (KeepsOthers W w2) := KeepsOthers.of_grownBy hg2 (fun j o e => by cases e)
    have HKP : Hid (KpB w.heap.size (w.heap.size + 3) W w2) := ⟨(below_grown hg2).mono HB.out.b.size, hg2.block _ HB.out.s.lt (by simp)⟩
    clear hg2 HC HB HO HX
    cases q
    · have HSN2 : Hid (rP M (pre ++ [x]) = L) := by show _ = _; rw [HSN.out]; simp [rowS]
      gi_wp2
      refine ⟨HKO.out.from _, HKP.out, v, HB2.out, ?_⟩
      rw [HSN2.out]; exact HO2.out
    · have cl := HB2.out.l.cell
      obtain ⟨n, hn⟩ : ∃ n, L.length = n := ⟨_, rfl⟩
      have HN := Lib.hid hn
      have HO3 : Hid (w2.ownsRow (w.heap.size + 4) 45 2 v n (L.flatMap spCs)) := by rw [← hn]; exact HO2.out
      rw [hn] at hL20
      clear hn HO2
      obtain ⟨ao, cap, rfl⟩ := own_slice HO3.out
      gi_wp2
      clear cl
      by_cases h0 : n = 0
      · subst h0
        have HNO : Hid (¬ (0 < L.length ∧ (spLast L).to_ = tmS ss k - 1)) := fun h => by have := h.1; have := HN.out; omega
        refine region_in_round (S := fun V => V = w2.drew) hmx (by kernel_rfl) (fun ⟨_, _, h⟩ => h) rfl (fun hHeld => ?_)
        refine wpAnyH_take (i := 0) (oi := ?oiz0) (v := .int .i64 0) ?hiz0 (by kernel_rfl) (by kernel_rfl) (by kernel_rfl) ?hqz0 ?hyz0 hHeld ?restz0
        case hiz0 => simp only [List.getElem?_toArray, List.getElem?_cons_succ, List.getElem?_cons_zero, Option.some.injEq]; rfl
        case hqz0 => exact fun _ _ _ h => h
        case hyz0 =>
          refine Or.inl ⟨by rfl, fun V hV => ?_⟩
          clear hV; skip
          go_simp
        try simp only [Go.Act.put, List.setIfInBounds_toArray, List.set_cons_zero, List.set_cons_succ]
        refine wpAnyH_take (i := 1) (oi := ?oiz1) (v := .bool false) ?hiz1 (by kernel_rfl) (by kernel_rfl) (by kernel_rfl) ?hqz1 ?hyz1 hHeld ?restz1
        case hiz1 => simp only [List.getElem?_toArray, List.getElem?_cons_succ, List.getElem?_cons_zero, Option.some.injEq]; rfl
        case hqz1 => exact fun _ _ _ h => h
        case hyz1 =>
          refine Or.inl ⟨by rfl, fun V hV => ?_⟩
          clear hV; skip
          go_simp
        try simp only [Go.Act.put, List.setIfInBounds_toArray, List.set_cons_zero, List.set_cons_succ]
        refine wpAnyH_take (i := 2) (oi := ?oiz2) (v := .bool false) ?hiz2 (by kernel_rfl) (by kernel_rfl) (by kernel_rfl) ?hqz2 ?hyz2 hHeld ?restz2
        case hiz2 => simp only [List.getElem?_toArray, List.getElem?_cons_succ, List.getElem?_cons_zero, Option.some.injEq]; rfl
        case hqz2 => exact fun _ _ _ h => h
        case hyz2 =>
          refine Or.inl ⟨by rfl, fun V hV => ?_⟩
          clear hV; skip
          go_simp
        try simp only [Go.Act.put, List.setIfInBounds_toArray, List.set_cons_zero, List.set_cons_succ]
        refine wpAnyH_take (i := 3) (oi := ?oiz3) (v := undef) ?hiz3 (by kernel_rfl) (by kernel_rfl) (by kernel_rfl) ?hqz3 ?hyz3 hHeld ?restz3
        case hiz3 => simp only [List.getElem?_toArray, List.getElem?_cons_succ, List.getElem?_cons_zero, Option.some.injEq]; rfl
        case hqz3 => exact fun _ _ _ h => h
        case hyz3 => exact Or.inr ⟨by kernel_rfl, rfl⟩
        try simp only [Go.Act.put, List.setIfInBounds_toArray, List.set_cons_zero, List.set_cons_succ]
        refine wpAnyH_take (i := 4) (oi := ?oiz4) (v := undef) ?hiz4 (by kernel_rfl) (by kernel_rfl) (by kernel_rfl) ?hqz4 ?hyz4 hHeld ?restz4
        case hiz4 => simp only [List.getElem?_toArray, List.getElem?_cons_succ, List.getElem?_cons_zero, Option.some.injEq]; rfl
        case hqz4 => exact fun _ _ _ h => h
        case hyz4 => exact Or.inr ⟨by kernel_rfl, rfl⟩
        try simp only [Go.Act.put, List.setIfInBounds_toArray, List.set_cons_zero, List.set_cons_succ]
        refine wpAnyH_take (i := 5) (oi := ?oiz5) (v := undef) ?hiz5 (by kernel_rfl) (by kernel_rfl) (by kernel_rfl) ?hqz5 ?hyz5 hHeld ?restz5
        case hiz5 => simp only [List.getElem?_toArray, List.getElem?_cons_succ, List.getElem?_cons_zero, Option.some.injEq]; rfl
        case hqz5 => exact fun _ _ _ h => h
        case hyz5 => exact Or.inr ⟨by kernel_rfl, rfl⟩
        try simp only [Go.Act.put, List.setIfInBounds_toArray, List.set_cons_zero, List.set_cons_succ]
        refine wpAnyH_take (i := 6) (oi := ?oiz6) (v := undef) ?hiz6 (by kernel_rfl) (by kernel_rfl) (by kernel_rfl) ?hqz6 ?hyz6 hHeld ?restz6
        case hiz6 => simp only [List.getElem?_toArray, List.getElem?_cons_succ, List.getElem?_cons_zero, Option.some.injEq]; rfl
        case hqz6 => exact fun _ _ _ h => h
        case hyz6 => exact Or.inr ⟨by kernel_rfl, rfl⟩
        try simp only [Go.Act.put, List.setIfInBounds_toArray, List.set_cons_zero, List.set_cons_succ]
        refine wpAnyH_take (i := 7) (oi := ?oiz7) (v := undef) ?hiz7 (by kernel_rfl) (by kernel_rfl) (by kernel_rfl) ?hqz7 ?hyz7 hHeld ?restz7
        case hiz7 => simp only [List.getElem?_toArray, List.getElem?_cons_succ, List.getElem?_cons_zero, Option.some.injEq]; rfl
        case hqz7 => exact fun _ _ _ h => h
        case hyz7 => exact Or.inr ⟨by kernel_rfl, rfl⟩
        try simp only [Go.Act.put, List.setIfInBounds_toArray, List.set_cons_zero, List.set_cons_succ]
        refine wpAnyH_take (i := 8) (oi := ?oiz8) (v := undef) ?hiz8 (by kernel_rfl) (by kernel_rfl) (by kernel_rfl) ?hqz8 ?hyz8 hHeld ?restz8
        case hiz8 => simp only [List.getElem?_toArray, List.getElem?_cons_succ, List.getElem?_cons_zero, Option.some.injEq]; rfl
        case hqz8 => exact fun _ _ _ h => h
        case hyz8 => exact Or.inr ⟨by kernel_rfl, rfl⟩
        try simp only [Go.Act.put, List.setIfInBounds_toArray, List.set_cons_zero, List.set_cons_succ]
        refine wpAnyH_take (i := 9) (oi := ?oiz9) (v := undef) ?hiz9 (by kernel_rfl) (by kernel_rfl) (by kernel_rfl) ?hqz9 ?hyz9 hHeld ?restz9
        case hiz9 => simp only [List.getElem?_toArray, List.getElem?_cons_succ, List.getElem?_cons_zero, Option.some.injEq]; rfl
        case hqz9 => exact fun _ _ _ h => h
        case hyz9 => exact Or.inr ⟨by kernel_rfl, rfl⟩
        try simp only [Go.Act.put, List.setIfInBounds_toArray, List.set_cons_zero, List.set_cons_succ]
        refine wpAnyH_take (i := 10) (oi := ?oiz10) (v := undef) ?hiz10 (by kernel_rfl) (by kernel_rfl) (by kernel_rfl) ?hqz10 ?hyz10 hHeld ?restz10
        case hiz10 => simp only [List.getElem?_toArray, List.getElem?_cons_succ, List.getElem?_cons_zero, Option.some.injEq]; rfl
        case hqz10 => exact fun _ _ _ h => h
        case hyz10 => exact Or.inr ⟨by kernel_rfl, rfl⟩
        try simp only [Go.Act.put, List.setIfInBounds_toArray, List.set_cons_zero, List.set_cons_succ]
        refine wpAnyH_take (i := 11) (oi := ?oiz11) (v := undef) ?hiz11 (by kernel_rfl) (by kernel_rfl) (by kernel_rfl) ?hqz11 ?hyz11 hHeld ?restz11
        case hiz11 => simp only [List.getElem?_toArray, List.getElem?_cons_succ, List.getElem?_cons_zero, Option.some.injEq]; rfl
        case hqz11 => exact fun _ _ _ h => h
        case hyz11 => exact Or.inr ⟨by kernel_rfl, rfl⟩
        try simp only [Go.Act.put, List.setIfInBounds_toArray, List.set_cons_zero, List.set_cons_succ]
        refine wpAnyH_take (i := 12) (oi := ?oiz12) (v := undef) ?hiz12 (by kernel_rfl) (by kernel_rfl) (by kernel_rfl) ?hqz12 ?hyz12 hHeld ?restz12
        case hiz12 => simp only [List.getElem?_toArray, List.getElem?_cons_succ, List.getElem?_cons_zero, Option.some.injEq]; rfl
        case hqz12 => exact fun _ _ _ h => h
        case hyz12 => exact Or.inr ⟨by kernel_rfl, rfl⟩
        try simp only [Go.Act.put, List.setIfInBounds_toArray, List.set_cons_zero, List.set_cons_succ]
        refine wpAnyH_take (i := 13) (oi := ?oiz13) (v := undef) ?hiz13 (by kernel_rfl) (by kernel_rfl) (by kernel_rfl) ?hqz13 ?hyz13 hHeld ?restz13
        case hiz13 => simp only [List.getElem?_toArray, List.getElem?_cons_succ, List.getElem?_cons_zero, Option.some.injEq]; rfl
        case hqz13 => exact fun _ _ _ h => h
        case hyz13 => exact Or.inr ⟨by kernel_rfl, rfl⟩
        try simp only [Go.Act.put, List.setIfInBounds_toArray, List.set_cons_zero, List.set_cons_succ]
        refine wpAnyH_take (i := 14) (oi := ?oiz14) (v := .bool false) ?hiz14 (by kernel_rfl) (by kernel_rfl) (by kernel_rfl) ?hqz14 ?hyz14 hHeld ?restz14
        case hiz14 => simp only [List.getElem?_toArray, List.getElem?_cons_succ, List.getElem?_cons_zero, Option.some.injEq]; rfl
        case hqz14 => exact fun _ _ _ h => h
        case hyz14 =>
          refine Or.inl ⟨by rfl, fun V hV => ?_⟩
          clear hV; skip
          go_simp
        try simp only [Go.Act.put, List.setIfInBounds_toArray, List.set_cons_zero, List.set_cons_succ]
        refine wpAnyH_done (by kernel_rfl) ?_ _
        have hgr : w2.grownBy w2.drew none := grown_drewN _ _ 1
        have HB6 := Lib.hid (HB2.out.grown hgr (fun r e => by cases e))
        have HO6 := Lib.hid (own_cells HO3.out hgr (fun r e => by cases e))
        have HX6 : Hid (w2.drew.heap[Bx]? = some (.cells (stepC ss k) 85 (0, 0))) := (hgr.block _ (lt_of_block HX2.out) (by simp)).trans HX2.out
        have HKO6 : Hid (KeepsOthers W w2.drew) := HKO.out.trans (KeepsOthers.of_grownBy hgr (fun j o e => by cases e))
        have HKP6 : Hid (KpB w.heap.size (w.heap.size + 3) W w2.drew) := ⟨HKP.out.1.trans ((below_grown hgr).mono HB2.out.b.size), (hgr.block _ HB2.out.s.lt (by simp)).trans HKP.out.2⟩
        have HH := hHeld
        clear hgr hHeld HB2 HO3 HX2 HKO HKP
        generalize Value.slice ao 0 cap = v at *
        generalize w2.drew = V6 at *
        have hi := HI0.out; have hz0 := HZ0.out; have hz1 := HZ1.out; have hz2 := HZ2.out
        have hb4 : w.heap.size + 4 ≤ V6.heap.size := by have := HB6.out.s.lt; omega
        have HB60 := Lib.hid hb4
        have cL := HB6.out.l.cell
        have k1 : V6.cell? ⟨Bx, 1, none⟩ = some (.int .i64 (smpD ss k).t) := step_cells HX6.out 1 _ rfl
        have k8 : V6.cell? ⟨Bx, 8, none⟩ = some (.int .i64 (smpD ss (k + 1)).t) := step_cells HX6.out 8 _ rfl
        have rw1 : IntKind.i64.wrap ((smpD ss (k + 1)).t - 1) = (smpD ss (k + 1)).t - 1 := IntWalk.i64_in _ (by omega)
        clear hb4
        gi_wp2_with (gi_at_builtin; refine wpListIn_append_own _ rfl _ _ 37 rfl (w.heap.size + 4) 45 i0 (.agg #[.int .i64 0, .int .i64 0]) 2 16 Try.underlying37 hi hz0 hz1 hz2 rfl (by decide) v 0 _ rfl (HO6.out.alloc _) ⟨V6.heap.size, 0, none⟩ 1 1 [.int .i64 (smpD ss k).t, .int .i64 ((smpD ss (k + 1)).t - 1)] rfl rfl (World.news_of_block (cs := #[.int .i64 (smpD ss k).t, .int .i64 ((smpD ss (k + 1)).t - 1)]) (t := 45) (fr := (0, 0)) (heap_alloc_new V6 _)) (by simp [Value.oneCell']) (by unfold maxLen; omega) (by omega) (by have := HB60.out; simp; omega) ?_; intro v' w8 hown' hgrow' _; obtain ⟨g', cap', rfl⟩ := ownsRow_succ hown'; have hrow : ∀ r, v.ownBlock = some r → w.heap.size + 4 ≤ r := fun r e => (HO6.out.lt r e).1; have HB8 := Lib.hid ((HB6.out.grown (World.grownBy_alloc _ _ none) (fun r e => by cases e)).grown hgrow' hrow); have cL8 := HB8.out.l.cell; have fL8 := HB8.out.l.frozen)
        have HSN2 : Hid (rP M (pre ++ [x]) = L ++ [⟨(smpD ss k).t, (smpD ss (k + 1)).t - 1⟩]) := by
          show _ = _
          rw [HSN.out]
          unfold rowS
          rw [if_pos rfl, if_neg HNO.out]
          rfl
        have HB9 := Lib.hid (HB8.out.setL (.slice (some ⟨g', 0, none⟩) (0 + 1) cap'))
        have HO9 : Hid ((w8.setCell ⟨w.heap.size + 2, 0, none⟩ (.slice (some ⟨g', 0, none⟩) (0 + 1) cap')).ownsRow (w.heap.size + 4) 45 2 (.slice (some ⟨g', 0, none⟩) (0 + 1) cap') (rP M (pre ++ [x])).length ((rP M (pre ++ [x])).flatMap spCs)) := by
          show World.ownsRow _ _ _ _ _ _ _
          rw [HSN2.out, List.length_append, HN.out, mflat_snoc]
          exact own_box hown' (by omega) _
        have HKO10 : Hid (KeepsOthers W (w8.setCell ⟨w.heap.size + 2, 0, none⟩ (.slice (some ⟨g', 0, none⟩) (0 + 1) cap'))) := by
          refine ((HKO6.out.trans (KeepsOthers.alloc _ _)).trans (KeepsOthers.of_grownBy hgrow' (fun j o e ho => ?_))).trans (KeepsOthers.setCell _ _ _)
          rcases (HO6.out.alloc _).2 with ⟨hv, _⟩ | ⟨g', cap, cur, hv, hb, hgg, _⟩
          · rw [hv] at e; cases e
          · have : g' = j := by rw [hv] at e; simpa [Value.ownBlock] using e
            subst this
            rw [hgg] at ho; cases ho; rfl
        have HKP10 : Hid (KpB w.heap.size (w.heap.size + 3) W (w8.setCell ⟨w.heap.size + 2, 0, none⟩ (.slice (some ⟨g', 0, none⟩) (0 + 1) cap'))) := by
          have hl := HB6.out.s.lt
          refine ⟨?_, ?_⟩
          · exact ((HKP6.out.1.alloc (by omega) _).grown hgrow' (by simp; omega) (fun r e => by have := hrow r e; omega)).setCell (by show _ ≤ w.heap.size + 2; omega) _
          · rw [Below.heap_setCell _ _ _ _ (by show w.heap.size + 3 ≠ w.heap.size + 2; omega), hgrow'.block (w.heap.size + 3) (by simp; omega) (fun e => by have := hrow _ e.symm; omega), Below.heap_alloc _ _ _ hl]
            exact HKP6.out.2
        clear hown' hgrow' hrow
        gi_wp2
        exact ⟨HKO10.out.from _, HKP10.out, _, HB9.out, HO9.out⟩
      · obtain ⟨m, rfl⟩ : ∃ m, n = m + 1 := ⟨n - 1, by omega⟩
        obtain ⟨gb, rfl⟩ : ∃ gb, ao = some ⟨gb, 0, none⟩ := by
          rcases HO3.out.2 with ⟨e, q⟩ | ⟨g', c', cur, e, _⟩
          · omega
          · simp only [Value.slice.injEq] at e; exact ⟨g', e.1⟩
        have hmL : m < L.length := by have := HN.out; omega
        have hLm : L[m]? = some L[m] := List.getElem?_eq_getElem hmL
        obtain ⟨lt, hlt⟩ : ∃ lt, L[m].to_ = lt := ⟨_, rfl⟩
        have hlast : spLast L = L[m] := by unfold spLast; rw [HN.out, Nat.add_sub_cancel, List.getD_eq_getElem?_getD, hLm]; rfl
        have e1 := own_cellK spCs_len HO3.out HN.out (show m < m + 1 by omega) hLm (c := 1) rfl
        rw [hlt] at e1
        have kt : Hid (w2.drew.cell? ⟨gb, m * 2 + 1, none⟩ = some (.int .i64 lt)) := e1
        have kl : Hid (w2.drew.cell? ⟨w.heap.size + 2, 0, none⟩ = some (.slice (some ⟨gb, 0, none⟩) (m + 1) cap)) := HB2.out.l.cell
        have kx : Hid (w2.drew.cell? ⟨Bx, 1, none⟩ = some (.int .i64 (smpD ss k).t)) := step_cells (t := 85) HX2.out 1 _ rfl
        have rk1 : IntKind.i64.wrap ((smpD ss k).t - 1) = (smpD ss k).t - 1 := IntWalk.i64_in _ (by omega)
        have rm1 : IntKind.i64.wrap ((m : Int) + 1 - 1) = (m : Int) := by rw [show (m : Int) + 1 - 1 = (m : Int) by omega]; exact IntWalk.i64_in _ (by omega)
        have rm2 : IntKind.i64.wrap (m : Int) = (m : Int) := IntWalk.i64_in _ (by omega)
        have im0 : (0 : Int) ≤ (m : Int) := by omega
        have im1 : (m : Int) < (m : Int) + 1 := by omega
        have im2 : (0 : Int) < (m : Int) + 1 := by omega
        clear e1 h0
        by_cases he : lt = (smpD ss k).t - 1
        · have hbe : (lt == (smpD ss k).t - 1) = true := by rw [beq_iff_eq]; exact he
          refine region_in_round (S := fun V => V = w2.drew) hmx (by kernel_rfl) (fun ⟨_, _, h⟩ => h) rfl (fun hHeld => ?_)
          refine wpAnyH_take (i := 0) (oi := ?oit0) (v := .int .i64 ((m : Int) + 1)) ?hit0 (by kernel_rfl) (by kernel_rfl) (by kernel_rfl) ?hqt0 ?hyt0 hHeld ?restt0
          case hit0 => simp only [List.getElem?_toArray, List.getElem?_cons_succ, List.getElem?_cons_zero, Option.some.injEq]; rfl
          case hqt0 => exact fun _ _ _ h => h
          case hyt0 =>
            refine Or.inl ⟨by rfl, fun V hV => ?_⟩
            clear hV; skip
            go_simp
          try simp only [Go.Act.put, List.setIfInBounds_toArray, List.set_cons_zero, List.set_cons_succ]
          refine wpAnyH_take (i := 1) (oi := ?oit1) (v := .bool true) ?hit1 (by kernel_rfl) (by kernel_rfl) (by kernel_rfl) ?hqt1 ?hyt1 hHeld ?restt1
          case hit1 => simp only [List.getElem?_toArray, List.getElem?_cons_succ, List.getElem?_cons_zero, Option.some.injEq]; rfl
          case hqt1 => exact fun _ _ _ h => h
          case hyt1 =>
            refine Or.inl ⟨by rfl, fun V hV => ?_⟩
            clear hV; skip
            go_simp
          try simp only [Go.Act.put, List.setIfInBounds_toArray, List.set_cons_zero, List.set_cons_succ]
          refine wpAnyH_take (i := 2) (oi := ?oit2) (v := .bool true) ?hit2 (by kernel_rfl) (by kernel_rfl) (by kernel_rfl) ?hqt2 ?hyt2 hHeld ?restt2
          case hit2 => simp only [List.getElem?_toArray, List.getElem?_cons_succ, List.getElem?_cons_zero, Option.some.injEq]; rfl
          case hqt2 => exact fun _ _ _ h => h
          case hyt2 =>
            refine Or.inl ⟨by rfl, fun V hV => ?_⟩
            clear hV; skip
            go_simp
          try simp only [Go.Act.put, List.setIfInBounds_toArray, List.set_cons_zero, List.set_cons_succ]
          refine wpAnyH_take (i := 3) (oi := ?oit3) (v := .slice (some ⟨gb, 0, none⟩) (m + 1) cap) ?hit3 (by kernel_rfl) (by kernel_rfl) (by kernel_rfl) ?hqt3 ?hyt3 hHeld ?restt3
          case hit3 => simp only [List.getElem?_toArray, List.getElem?_cons_succ, List.getElem?_cons_zero, Option.some.injEq]; rfl
          case hqt3 => exact fun _ _ _ h => h
          case hyt3 =>
            refine Or.inl ⟨by rfl, fun V hV => ?_⟩
            subst hV; have qq := kl.out; skip
            go_simp
          try simp only [Go.Act.put, List.setIfInBounds_toArray, List.set_cons_zero, List.set_cons_succ]
          refine wpAnyH_take (i := 4) (oi := ?oit4) (v := .int .i64 ((m : Int) + 1)) ?hit4 (by kernel_rfl) (by kernel_rfl) (by kernel_rfl) ?hqt4 ?hyt4 hHeld ?restt4
          case hit4 => simp only [List.getElem?_toArray, List.getElem?_cons_succ, List.getElem?_cons_zero, Option.some.injEq]; rfl
          case hqt4 => exact fun _ _ _ h => h
          case hyt4 =>
            refine Or.inl ⟨by rfl, fun V hV => ?_⟩
            clear hV; skip
            go_simp
          try simp only [Go.Act.put, List.setIfInBounds_toArray, List.set_cons_zero, List.set_cons_succ]
          refine wpAnyH_take (i := 5) (oi := ?oit5) (v := .int .i64 (m : Int)) ?hit5 (by kernel_rfl) (by kernel_rfl) (by kernel_rfl) ?hqt5 ?hyt5 hHeld ?restt5
          case hit5 => simp only [List.getElem?_toArray, List.getElem?_cons_succ, List.getElem?_cons_zero, Option.some.injEq]; rfl
          case hqt5 => exact fun _ _ _ h => h
          case hyt5 =>
            refine Or.inl ⟨by rfl, fun V hV => ?_⟩
            clear hV; skip
            go_simp
          try simp only [Go.Act.put, List.setIfInBounds_toArray, List.set_cons_zero, List.set_cons_succ]
          refine wpAnyH_take (i := 6) (oi := ?oit6) (v := .pointer (some ⟨gb, m * 2, none⟩)) ?hit6 (by kernel_rfl) (by kernel_rfl) (by kernel_rfl) ?hqt6 ?hyt6 hHeld ?restt6
          case hit6 => simp only [List.getElem?_toArray, List.getElem?_cons_succ, List.getElem?_cons_zero, Option.some.injEq]; rfl
          case hqt6 => exact fun _ _ _ h => h
          case hyt6 =>
            refine Or.inl ⟨by rfl, fun V hV => ?_⟩
            clear hV; skip
            go_simp
          try simp only [Go.Act.put, List.setIfInBounds_toArray, List.set_cons_zero, List.set_cons_succ]
          refine wpAnyH_take (i := 7) (oi := ?oit7) (v := .pointer (some ⟨gb, m * 2 + 1, none⟩)) ?hit7 (by kernel_rfl) (by kernel_rfl) (by kernel_rfl) ?hqt7 ?hyt7 hHeld ?restt7
          case hit7 => simp only [List.getElem?_toArray, List.getElem?_cons_succ, List.getElem?_cons_zero, Option.some.injEq]; rfl
          case hqt7 => exact fun _ _ _ h => h
          case hyt7 =>
            refine Or.inl ⟨by rfl, fun V hV => ?_⟩
            clear hV; skip
            go_simp
          try simp only [Go.Act.put, List.setIfInBounds_toArray, List.set_cons_zero, List.set_cons_succ]
          refine wpAnyH_take (i := 8) (oi := ?oit8) (v := .int .i64 lt) ?hit8 (by kernel_rfl) (by kernel_rfl) (by kernel_rfl) ?hqt8 ?hyt8 hHeld ?restt8
          case hit8 => simp only [List.getElem?_toArray, List.getElem?_cons_succ, List.getElem?_cons_zero, Option.some.injEq]; rfl
          case hqt8 => exact fun _ _ _ h => h
          case hyt8 =>
            refine Or.inl ⟨by rfl, fun V hV => ?_⟩
            subst hV; have qq := kt.out; skip
            go_simp
          try simp only [Go.Act.put, List.setIfInBounds_toArray, List.set_cons_zero, List.set_cons_succ]
          refine wpAnyH_take (i := 9) (oi := ?oit9) (v := .pointer (some ⟨Bx, 1, none⟩)) ?hit9 (by kernel_rfl) (by kernel_rfl) (by kernel_rfl) ?hqt9 ?hyt9 hHeld ?restt9
          case hit9 => simp only [List.getElem?_toArray, List.getElem?_cons_succ, List.getElem?_cons_zero, Option.some.injEq]; rfl
          case hqt9 => exact fun _ _ _ h => h
          case hyt9 =>
            refine Or.inl ⟨by rfl, fun V hV => ?_⟩
            clear hV; skip
            go_simp
          try simp only [Go.Act.put, List.setIfInBounds_toArray, List.set_cons_zero, List.set_cons_succ]
          refine wpAnyH_take (i := 10) (oi := ?oit10) (v := .pointer (some ⟨Bx, 1, none⟩)) ?hit10 (by kernel_rfl) (by kernel_rfl) (by kernel_rfl) ?hqt10 ?hyt10 hHeld ?restt10
          case hit10 => simp only [List.getElem?_toArray, List.getElem?_cons_succ, List.getElem?_cons_zero, Option.some.injEq]; rfl
          case hqt10 => exact fun _ _ _ h => h
          case hyt10 =>
            refine Or.inl ⟨by rfl, fun V hV => ?_⟩
            clear hV; skip
            go_simp
          try simp only [Go.Act.put, List.setIfInBounds_toArray, List.set_cons_zero, List.set_cons_succ]
          refine wpAnyH_take (i := 11) (oi := ?oit11) (v := .int .i64 (smpD ss k).t) ?hit11 (by kernel_rfl) (by kernel_rfl) (by kernel_rfl) ?hqt11 ?hyt11 hHeld ?restt11
          case hit11 => simp only [List.getElem?_toArray, List.getElem?_cons_succ, List.getElem?_cons_zero, Option.some.injEq]; rfl
          case hqt11 => exact fun _ _ _ h => h
          case hyt11 =>
            refine Or.inl ⟨by rfl, fun V hV => ?_⟩
            subst hV; have qq := kx.out; skip
            go_simp
          try simp only [Go.Act.put, List.setIfInBounds_toArray, List.set_cons_zero, List.set_cons_succ]
          refine wpAnyH_take (i := 12) (oi := ?oit12) (v := .int .i64 ((smpD ss k).t - 1)) ?hit12 (by kernel_rfl) (by kernel_rfl) (by kernel_rfl) ?hqt12 ?hyt12 hHeld ?restt12
          case hit12 => simp only [List.getElem?_toArray, List.getElem?_cons_succ, List.getElem?_cons_zero, Option.some.injEq]; rfl
          case hqt12 => exact fun _ _ _ h => h
          case hyt12 =>
            refine Or.inl ⟨by rfl, fun V hV => ?_⟩
            clear hV; skip
            go_simp
          try simp only [Go.Act.put, List.setIfInBounds_toArray, List.set_cons_zero, List.set_cons_succ]
          refine wpAnyH_take (i := 13) (oi := ?oit13) (v := .bool true) ?hit13 (by kernel_rfl) (by kernel_rfl) (by kernel_rfl) ?hqt13 ?hyt13 hHeld ?restt13
          case hit13 => simp only [List.getElem?_toArray, List.getElem?_cons_succ, List.getElem?_cons_zero, Option.some.injEq]; rfl
          case hqt13 => exact fun _ _ _ h => h
          case hyt13 =>
            refine Or.inl ⟨by rfl, fun V hV => ?_⟩
            clear hV; skip
            go_simp
          try simp only [Go.Act.put, List.setIfInBounds_toArray, List.set_cons_zero, List.set_cons_succ]
          refine wpAnyH_take (i := 14) (oi := ?oit14) (v := .bool true) ?hit14 (by kernel_rfl) (by kernel_rfl) (by kernel_rfl) ?hqt14 ?hyt14 hHeld ?restt14
          case hit14 => simp only [List.getElem?_toArray, List.getElem?_cons_succ, List.getElem?_cons_zero, Option.some.injEq]; rfl
          case hqt14 => exact fun _ _ _ h => h
          case hyt14 =>
            refine Or.inl ⟨by rfl, fun V hV => ?_⟩
            clear hV; skip
            go_simp
          try simp only [Go.Act.put, List.setIfInBounds_toArray, List.set_cons_zero, List.set_cons_succ]
          refine wpAnyH_done (by kernel_rfl) ?_ _
          have hgr : w2.grownBy w2.drew none := grown_drewN _ _ 1
          have HB6 := Lib.hid (HB2.out.grown hgr (fun r e => by cases e))
          have HO6 := Lib.hid (own_cells HO3.out hgr (fun r e => by cases e))
          have HX6 : Hid (w2.drew.heap[Bx]? = some (.cells (stepC ss k) 85 (0, 0))) := (hgr.block _ (lt_of_block HX2.out) (by simp)).trans HX2.out
          have HKO6 : Hid (KeepsOthers W w2.drew) := HKO.out.trans (KeepsOthers.of_grownBy hgr (fun j o e => by cases e))
          have HKP6 : Hid (KpB w.heap.size (w.heap.size + 3) W w2.drew) := ⟨HKP.out.1.trans ((below_grown hgr).mono HB2.out.b.size), (hgr.block _ HB2.out.s.lt (by simp)).trans HKP.out.2⟩
          have HH := hHeld
          clear hgr hHeld HB2 HO3 HX2 HKO HKP
          have hgb : w.heap.size + 4 ≤ gb := (HO6.out.lt gb rfl).1
          have cL := HB6.out.l.cell
          have k8 : w2.drew.cell? ⟨Bx, 8, none⟩ = some (.int .i64 (smpD ss (k + 1)).t) := step_cells HX6.out 8 _ rfl
          have kt6 := kt.out
          have fr6 := own_freeK HO6.out (m * 2 + 1)
          have rw1 : IntKind.i64.wrap ((smpD ss (k + 1)).t - 1) = (smpD ss (k + 1)).t - 1 := IntWalk.i64_in _ (by omega)
          have HSN2 : Hid (rP M (pre ++ [x]) = L.set m ⟨L[m].fr, (smpD ss (k + 1)).t - 1⟩) := by
            show _ = _
            rw [HSN.out]
            unfold rowS
            rw [if_pos rfl, if_pos ⟨by omega, by rw [hlast, hlt]; exact he⟩, hlast, HN.out]
            rfl
          have HO9 : Hid ((w2.drew.setCell ⟨gb, m * 2 + 1, none⟩ (.int .i64 ((smpD ss (k + 1)).t - 1))).ownsRow (w.heap.size + 4) 45 2 (.slice (some ⟨gb, 0, none⟩) (m + 1) cap) (rP M (pre ++ [x])).length ((rP M (pre ++ [x])).flatMap spCs)) := by
            show World.ownsRow _ _ _ _ _ _ _
            rw [HSN2.out, List.length_set, HN.out, sp_set L m hmL]
            exact own_setV HO6.out _
          have HB9 := Lib.hid (HB6.out.setR hgb (m * 2 + 1) (.int .i64 ((smpD ss (k + 1)).t - 1)))
          have HKO9 : Hid (KeepsOthers W (w2.drew.setCell ⟨gb, m * 2 + 1, none⟩ (.int .i64 ((smpD ss (k + 1)).t - 1)))) := HKO6.out.trans (KeepsOthers.setCell _ _ _)
          have HKP9 : Hid (KpB w.heap.size (w.heap.size + 3) W (w2.drew.setCell ⟨gb, m * 2 + 1, none⟩ (.int .i64 ((smpD ss (k + 1)).t - 1)))) :=
            ⟨HKP6.out.1.setCell (by show _ ≤ gb; omega) _, (Below.heap_setCell _ _ _ _ (by show w.heap.size + 3 ≠ gb; omega)).trans HKP6.out.2⟩
          clear HB6 HO6 HX6 HKO6 HKP6 hlast hLm hlt HSN HSN2
          gi_wp2
          exact ⟨HKO9.out.from _, HKP9.out, _, HB9.out, HO9.out⟩
        · have hbe : (lt == (smpD ss k).t - 1) = false := by rw [beq_eq_false_iff_ne]; exact he
          have HNO : Hid (¬ (0 < L.length ∧ (spLast L).to_ = tmS ss k - 1)) := fun h => by
            have q := h.2
            rw [hlast, hlt] at q
            exact he q
          refine region_in_round (S := fun V => V = w2.drew) hmx (by kernel_rfl) (fun ⟨_, _, h⟩ => h) rfl (fun hHeld => ?_)
          refine wpAnyH_take (i := 0) (oi := ?oif0) (v := .int .i64 ((m : Int) + 1)) ?hif0 (by kernel_rfl) (by kernel_rfl) (by kernel_rfl) ?hqf0 ?hyf0 hHeld ?restf0
          case hif0 => simp only [List.getElem?_toArray, List.getElem?_cons_succ, List.getElem?_cons_zero, Option.some.injEq]; rfl
          case hqf0 => exact fun _ _ _ h => h
          case hyf0 =>
            refine Or.inl ⟨by rfl, fun V hV => ?_⟩
            clear hV; skip
            go_simp
          try simp only [Go.Act.put, List.setIfInBounds_toArray, List.set_cons_zero, List.set_cons_succ]
          refine wpAnyH_take (i := 1) (oi := ?oif1) (v := .bool true) ?hif1 (by kernel_rfl) (by kernel_rfl) (by kernel_rfl) ?hqf1 ?hyf1 hHeld ?restf1
          case hif1 => simp only [List.getElem?_toArray, List.getElem?_cons_succ, List.getElem?_cons_zero, Option.some.injEq]; rfl
          case hqf1 => exact fun _ _ _ h => h
          case hyf1 =>
            refine Or.inl ⟨by rfl, fun V hV => ?_⟩
            clear hV; skip
            go_simp
          try simp only [Go.Act.put, List.setIfInBounds_toArray, List.set_cons_zero, List.set_cons_succ]
          refine wpAnyH_take (i := 2) (oi := ?oif2) (v := .bool true) ?hif2 (by kernel_rfl) (by kernel_rfl) (by kernel_rfl) ?hqf2 ?hyf2 hHeld ?restf2
          case hif2 => simp only [List.getElem?_toArray, List.getElem?_cons_succ, List.getElem?_cons_zero, Option.some.injEq]; rfl
          case hqf2 => exact fun _ _ _ h => h
          case hyf2 =>
            refine Or.inl ⟨by rfl, fun V hV => ?_⟩
            clear hV; skip
            go_simp
          try simp only [Go.Act.put, List.setIfInBounds_toArray, List.set_cons_zero, List.set_cons_succ]
          refine wpAnyH_take (i := 3) (oi := ?oif3) (v := .slice (some ⟨gb, 0, none⟩) (m + 1) cap) ?hif3 (by kernel_rfl) (by kernel_rfl) (by kernel_rfl) ?hqf3 ?hyf3 hHeld ?restf3
          case hif3 => simp only [List.getElem?_toArray, List.getElem?_cons_succ, List.getElem?_cons_zero, Option.some.injEq]; rfl
          case hqf3 => exact fun _ _ _ h => h
          case hyf3 =>
            refine Or.inl ⟨by rfl, fun V hV => ?_⟩
            subst hV; have qq := kl.out; skip
            go_simp
          try simp only [Go.Act.put, List.setIfInBounds_toArray, List.set_cons_zero, List.set_cons_succ]
          refine wpAnyH_take (i := 4) (oi := ?oif4) (v := .int .i64 ((m : Int) + 1)) ?hif4 (by kernel_rfl) (by kernel_rfl) (by kernel_rfl) ?hqf4 ?hyf4 hHeld ?restf4
          case hif4 => simp only [List.getElem?_toArray, List.getElem?_cons_succ, List.getElem?_cons_zero, Option.some.injEq]; rfl
          case hqf4 => exact fun _ _ _ h => h
          case hyf4 =>
            refine Or.inl ⟨by rfl, fun V hV => ?_⟩
            clear hV; skip
            go_simp
          try simp only [Go.Act.put, List.setIfInBounds_toArray, List.set_cons_zero, List.set_cons_succ]
          refine wpAnyH_take (i := 5) (oi := ?oif5) (v := .int .i64 (m : Int)) ?hif5 (by kernel_rfl) (by kernel_rfl) (by kernel_rfl) ?hqf5 ?hyf5 hHeld ?restf5
          case hif5 => simp only [List.getElem?_toArray, List.getElem?_cons_succ, List.getElem?_cons_zero, Option.some.injEq]; rfl
          case hqf5 => exact fun _ _ _ h => h
          case hyf5 =>
            refine Or.inl ⟨by rfl, fun V hV => ?_⟩
            clear hV; skip
            go_simp
          try simp only [Go.Act.put, List.setIfInBounds_toArray, List.set_cons_zero, List.set_cons_succ]
          refine wpAnyH_take (i := 6) (oi := ?oif6) (v := .pointer (some ⟨gb, m * 2, none⟩)) ?hif6 (by kernel_rfl) (by kernel_rfl) (by kernel_rfl) ?hqf6 ?hyf6 hHeld ?restf6
          case hif6 => simp only [List.getElem?_toArray, List.getElem?_cons_succ, List.getElem?_cons_zero, Option.some.injEq]; rfl
          case hqf6 => exact fun _ _ _ h => h
          case hyf6 =>
            refine Or.inl ⟨by rfl, fun V hV => ?_⟩
            clear hV; skip
            go_simp
          try simp only [Go.Act.put, List.setIfInBounds_toArray, List.set_cons_zero, List.set_cons_succ]
          refine wpAnyH_take (i := 7) (oi := ?oif7) (v := .pointer (some ⟨gb, m * 2 + 1, none⟩)) ?hif7 (by kernel_rfl) (by kernel_rfl) (by kernel_rfl) ?hqf7 ?hyf7 hHeld ?restf7
          case hif7 => simp only [List.getElem?_toArray, List.getElem?_cons_succ, List.getElem?_cons_zero, Option.some.injEq]; rfl
          case hqf7 => exact fun _ _ _ h => h
          case hyf7 =>
            refine Or.inl ⟨by rfl, fun V hV => ?_⟩
            clear hV; skip
            go_simp
          try simp only [Go.Act.put, List.setIfInBounds_toArray, List.set_cons_zero, List.set_cons_succ]
          refine wpAnyH_take (i := 8) (oi := ?oif8) (v := .int .i64 lt) ?hif8 (by kernel_rfl) (by kernel_rfl) (by kernel_rfl) ?hqf8 ?hyf8 hHeld ?restf8
          case hif8 => simp only [List.getElem?_toArray, List.getElem?_cons_succ, List.getElem?_cons_zero, Option.some.injEq]; rfl
          case hqf8 => exact fun _ _ _ h => h
          case hyf8 =>
            refine Or.inl ⟨by rfl, fun V hV => ?_⟩
            subst hV; have qq := kt.out; skip
            go_simp
          try simp only [Go.Act.put, List.setIfInBounds_toArray, List.set_cons_zero, List.set_cons_succ]
          refine wpAnyH_take (i := 9) (oi := ?oif9) (v := .pointer (some ⟨Bx, 1, none⟩)) ?hif9 (by kernel_rfl) (by kernel_rfl) (by kernel_rfl) ?hqf9 ?hyf9 hHeld ?restf9
          case hif9 => simp only [List.getElem?_toArray, List.getElem?_cons_succ, List.getElem?_cons_zero, Option.some.injEq]; rfl
          case hqf9 => exact fun _ _ _ h => h
          case hyf9 =>
            refine Or.inl ⟨by rfl, fun V hV => ?_⟩
            clear hV; skip
            go_simp
          try simp only [Go.Act.put, List.setIfInBounds_toArray, List.set_cons_zero, List.set_cons_succ]
          refine wpAnyH_take (i := 10) (oi := ?oif10) (v := .pointer (some ⟨Bx, 1, none⟩)) ?hif10 (by kernel_rfl) (by kernel_rfl) (by kernel_rfl) ?hqf10 ?hyf10 hHeld ?restf10
          case hif10 => simp only [List.getElem?_toArray, List.getElem?_cons_succ, List.getElem?_cons_zero, Option.some.injEq]; rfl
          case hqf10 => exact fun _ _ _ h => h
          case hyf10 =>
            refine Or.inl ⟨by rfl, fun V hV => ?_⟩
            clear hV; skip
            go_simp
          try simp only [Go.Act.put, List.setIfInBounds_toArray, List.set_cons_zero, List.set_cons_succ]
          refine wpAnyH_take (i := 11) (oi := ?oif11) (v := .int .i64 (smpD ss k).t) ?hif11 (by kernel_rfl) (by kernel_rfl) (by kernel_rfl) ?hqf11 ?hyf11 hHeld ?restf11
          case hif11 => simp only [List.getElem?_toArray, List.getElem?_cons_succ, List.getElem?_cons_zero, Option.some.injEq]; rfl
          case hqf11 => exact fun _ _ _ h => h
          case hyf11 =>
            refine Or.inl ⟨by rfl, fun V hV => ?_⟩
            subst hV; have qq := kx.out; skip
            go_simp
          try simp only [Go.Act.put, List.setIfInBounds_toArray, List.set_cons_zero, List.set_cons_succ]
          refine wpAnyH_take (i := 12) (oi := ?oif12) (v := .int .i64 ((smpD ss k).t - 1)) ?hif12 (by kernel_rfl) (by kernel_rfl) (by kernel_rfl) ?hqf12 ?hyf12 hHeld ?restf12
          case hif12 => simp only [List.getElem?_toArray, List.getElem?_cons_succ, List.getElem?_cons_zero, Option.some.injEq]; rfl
          case hqf12 => exact fun _ _ _ h => h
          case hyf12 =>
            refine Or.inl ⟨by rfl, fun V hV => ?_⟩
            clear hV; skip
            go_simp
          try simp only [Go.Act.put, List.setIfInBounds_toArray, List.set_cons_zero, List.set_cons_succ]
          refine wpAnyH_take (i := 13) (oi := ?oif13) (v := .bool false) ?hif13 (by kernel_rfl) (by kernel_rfl) (by kernel_rfl) ?hqf13 ?hyf13 hHeld ?restf13
          case hif13 => simp only [List.getElem?_toArray, List.getElem?_cons_succ, List.getElem?_cons_zero, Option.some.injEq]; rfl
          case hqf13 => exact fun _ _ _ h => h
          case hyf13 =>
            refine Or.inl ⟨by rfl, fun V hV => ?_⟩
            clear hV; skip
            go_simp
          try simp only [Go.Act.put, List.setIfInBounds_toArray, List.set_cons_zero, List.set_cons_succ]
          refine wpAnyH_take (i := 14) (oi := ?oif14) (v := .bool false) ?hif14 (by kernel_rfl) (by kernel_rfl) (by kernel_rfl) ?hqf14 ?hyf14 hHeld ?restf14
          case hif14 => simp only [List.getElem?_toArray, List.getElem?_cons_succ, List.getElem?_cons_zero, Option.some.injEq]; rfl
          case hqf14 => exact fun _ _ _ h => h
          case hyf14 =>
            refine Or.inl ⟨by rfl, fun V hV => ?_⟩
            clear hV; skip
            go_simp
          try simp only [Go.Act.put, List.setIfInBounds_toArray, List.set_cons_zero, List.set_cons_succ]
          refine wpAnyH_done (by kernel_rfl) ?_ _
          have hgr : w2.grownBy w2.drew none := grown_drewN _ _ 1
          have HB6 := Lib.hid (HB2.out.grown hgr (fun r e => by cases e))
          have HO6 := Lib.hid (own_cells HO3.out hgr (fun r e => by cases e))
          have HX6 : Hid (w2.drew.heap[Bx]? = some (.cells (stepC ss k) 85 (0, 0))) := (hgr.block _ (lt_of_block HX2.out) (by simp)).trans HX2.out
          have HKO6 : Hid (KeepsOthers W w2.drew) := HKO.out.trans (KeepsOthers.of_grownBy hgr (fun j o e => by cases e))
          have HKP6 : Hid (KpB w.heap.size (w.heap.size + 3) W w2.drew) := ⟨HKP.out.1.trans ((below_grown hgr).mono HB2.out.b.size), (hgr.block _ HB2.out.s.lt (by simp)).trans HKP.out.2⟩
          have HH := hHeld
          clear hgr hHeld HB2 HO3 HX2 HKO HKP
          clear kt kl kx hlast hLm hlt
          generalize Value.slice (some ⟨gb, 0, none⟩) (m + 1) cap = v at *
          generalize w2.drew = V6 at *
          have hi := HI0.out; have hz0 := HZ0.out; have hz1 := HZ1.out; have hz2 := HZ2.out
          have hb4 : w.heap.size + 4 ≤ V6.heap.size := by have := HB6.out.s.lt; omega
          have HB60 := Lib.hid hb4
          have cL := HB6.out.l.cell
          have k1 : V6.cell? ⟨Bx, 1, none⟩ = some (.int .i64 (smpD ss k).t) := step_cells HX6.out 1 _ rfl
          have k8 : V6.cell? ⟨Bx, 8, none⟩ = some (.int .i64 (smpD ss (k + 1)).t) := step_cells HX6.out 8 _ rfl
          have rw1 : IntKind.i64.wrap ((smpD ss (k + 1)).t - 1) = (smpD ss (k + 1)).t - 1 := IntWalk.i64_in _ (by omega)
          clear hb4
          gi_wp2_with (gi_at_builtin; refine wpListIn_append_own _ rfl _ _ 37 rfl (w.heap.size + 4) 45 i0 (.agg #[.int .i64 0, .int .i64 0]) 2 16 Try.underlying37 hi hz0 hz1 hz2 rfl (by decide) v (m + 1) _ rfl (HO6.out.alloc _) ⟨V6.heap.size, 0, none⟩ 1 1 [.int .i64 (smpD ss k).t, .int .i64 ((smpD ss (k + 1)).t - 1)] rfl rfl (World.news_of_block (cs := #[.int .i64 (smpD ss k).t, .int .i64 ((smpD ss (k + 1)).t - 1)]) (t := 45) (fr := (0, 0)) (heap_alloc_new V6 _)) (by simp [Value.oneCell']) (by unfold maxLen; omega) (by omega) (by have := HB60.out; simp; omega) ?_; intro v' w8 hown' hgrow' _; obtain ⟨g', cap', rfl⟩ := ownsRow_succ hown'; have hrow : ∀ r, v.ownBlock = some r → w.heap.size + 4 ≤ r := fun r e => (HO6.out.lt r e).1; have HB8 := Lib.hid ((HB6.out.grown (World.grownBy_alloc _ _ none) (fun r e => by cases e)).grown hgrow' hrow); have cL8 := HB8.out.l.cell; have fL8 := HB8.out.l.frozen)
          have HSN2 : Hid (rP M (pre ++ [x]) = L ++ [⟨(smpD ss k).t, (smpD ss (k + 1)).t - 1⟩]) := by
            show _ = _
            rw [HSN.out]
            unfold rowS
            rw [if_pos rfl, if_neg HNO.out]
            rfl
          have HB9 := Lib.hid (HB8.out.setL (.slice (some ⟨g', 0, none⟩) ((m + 1) + 1) cap'))
          have HO9 : Hid ((w8.setCell ⟨w.heap.size + 2, 0, none⟩ (.slice (some ⟨g', 0, none⟩) ((m + 1) + 1) cap')).ownsRow (w.heap.size + 4) 45 2 (.slice (some ⟨g', 0, none⟩) ((m + 1) + 1) cap') (rP M (pre ++ [x])).length ((rP M (pre ++ [x])).flatMap spCs)) := by
            show World.ownsRow _ _ _ _ _ _ _
            rw [HSN2.out, List.length_append, HN.out, mflat_snoc]
            exact own_box hown' (by omega) _
          have HKO10 : Hid (KeepsOthers W (w8.setCell ⟨w.heap.size + 2, 0, none⟩ (.slice (some ⟨g', 0, none⟩) ((m + 1) + 1) cap'))) := by
            refine ((HKO6.out.trans (KeepsOthers.alloc _ _)).trans (KeepsOthers.of_grownBy hgrow' (fun j o e ho => ?_))).trans (KeepsOthers.setCell _ _ _)
            rcases (HO6.out.alloc _).2 with ⟨hv, _⟩ | ⟨g', cap, cur, hv, hb, hgg, _⟩
            · rw [hv] at e; cases e
            · have : g' = j := by rw [hv] at e; simpa [Value.ownBlock] using e
              subst this
              rw [hgg] at ho; cases ho; rfl
          have HKP10 : Hid (KpB w.heap.size (w.heap.size + 3) W (w8.setCell ⟨w.heap.size + 2, 0, none⟩ (.slice (some ⟨g', 0, none⟩) ((m + 1) + 1) cap'))) := by
            have hl := HB6.out.s.lt
            refine ⟨?_, ?_⟩
            · exact ((HKP6.out.1.alloc (by omega) _).grown hgrow' (by simp; omega) (fun r e => by have := hrow r e; omega)).setCell (by show _ ≤ w.heap.size + 2; omega) _
            · rw [Below.heap_setCell _ _ _ _ (by show w.heap.size + 3 ≠ w.heap.size + 2; omega), hgrow'.block (w.heap.size + 3) (by simp; omega) (fun e => by have := hrow _ e.symm; omega), Below.heap_alloc _ _ _ hl]
              exact HKP6.out.2
          clear hown' hgrow' hrow
          gi_wp2
          exact ⟨HKO10.out.from _, HKP10.out, _, HB9.out, HO9.out⟩
  case done =>
    rintro D ys W hD hS ⟨v, hB, hO⟩ hK
    rw [rP_done M (ss.length - 1) ys hS] at hO
    have hmf : ∀ (fn : Fn) (first cap : Array Value) (w : World), (Instr.makeFunc fn first cap).run Try.prog w = .ok (.func fn first cap) w := fun _ _ _ _ => rfl
    have cL := hB.l.cell
    have hT : ∀ k, k < ss.length - 1 → tmS ss k < tmS ss (k + 1) := fun k hk => HS.out.up k (by omega)
    have hok := row_ok (M := M) hT (ss.length - 1) (Nat.le_refl _)
    have hdel := delSp_is (w.heap.size + 4) v (rowL (tmS ss) M (ss.length - 1)) (by have := hok.len; omega) 132 #[.pointer (some ⟨w.heap.size, 0, none⟩)] (fun x => decide (x.to_ - x.fr + 1 < least)) W hO (enters_of Try.func132 (by kernel_rfl) rfl)
      (fun y hy W' hg => by
        obtain ⟨a, b, hab, hbn, rfl⟩ := hok.al y hy
        have ha := HS.out.inn a (by omega); have hb := HS.out.inn b (by omega)
        refine short_is (tmS ss a) (tmS ss b - 1) least w.heap.size ?_ ?_ ?_ W' ?_
        · show -2000000 ≤ (smpD ss a).t ∧ (smpD ss a).t ≤ 2000000; omega
        · show -2000000 ≤ (smpD ss b).t - 1 ∧ (smpD ss b).t - 1 ≤ 2000000; omega
        · omega
        · exact (sp_keep (base := w.heap.size + 4) hB.y hg (by omega) (fun r e => (hO.lt r e).1)).cell) (R := restL (tmS ss) M least (ss.length - 1)) rfl
    have HDEL := Lib.hid hdel; have HBB := Lib.hid hB; have HOO := Lib.hid hO; have HKD := Lib.hid hK
    clear hdel hok hT hB hO hK hS
    gi_wp2
    refine ⟨trivial, callsIn_wide.2 (HDEL.out.mono ?_)⟩
    rintro e w9 ⟨⟨v9, rfl, ho9⟩, hg9⟩
    have hkd : w9.heap[D]? = some (.deferred (some [])) := by
      rw [hg9.block D (Array.getElem?_eq_some_iff.1 HKD.out).1 (fun e => by
        rcases HOO.out.2 with ⟨hv, _⟩ | ⟨g', cap, cur, hv, hb, hgg, _⟩
        · rw [hv] at e; cases e
        · rw [hv] at e
          have e2 : D = g' := by simpa [Value.ownBlock] using e
          rw [e2] at HKD
          have := HKD.out
          rw [hgg] at this; cases this)]
      exact HKD.out
    have hb9 : Below w.heap.size w w9 := HBB.out.b.grown hg9 HBB.out.b.size (fun r e => by have := (HOO.out.lt r e).1; omega)
    gi_wp2
    refine ⟨by simp, .inl ⟨_, _, rfl, run_takeDeferred hkd, ?_⟩⟩
    refine ⟨_, results_tmp rfl _ _ _, ⟨_, rfl, ownsRow_putObj (own_baseR ho9 (by omega)) _ hkd rfl⟩, grown_below (hb9.trans (belowK_b (w := w) (Nat.le_refl _) w9 D _ _ (by omega) hkd rfl rfl))⟩
end Go.Proofs.Ytgkhhfojioepgaa
