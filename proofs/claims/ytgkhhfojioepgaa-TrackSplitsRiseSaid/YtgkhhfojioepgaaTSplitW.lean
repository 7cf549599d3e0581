/- The contract of Splits where its arguments are right: the walk. -/
import Derived.Test.YtgkhhfojioepgaaTSplitF
import Derived.Test.YtgkhhfojioepgaaBaseC
import Derived.Test.YtgkhhfojioepgaaQScale
import Derived.Deep.DeepCutAuto
import Derived.Deep.CutBlock
import Derived.Deep.AppendLies
namespace Go.Proofs.Ytgkhhfojioepgaa
open Go.RowKit Go.Shelf
set_option linter.unusedSimpArgs false
set_option linter.unusedVariables false

attribute [local go_sem] Oper.semAt_some

theorem info_split : (Try.prog.info? 67).map (fun i => (i.zero, i.size, i.bytes)) = some (some (.agg #[.int .i64 0, .int .i64 0]), 2, 16) := by kernel_rfl
theorem seconds_is (k : Int) (p q : Smp) (h : -1000000 ≤ q.t - p.t ∧ q.t - p.t ≤ 1000000) (w : World) :
    Calls Try.prog 70 #[.agg #[.int .i64 k, .int .i64 p.t, .int .i64 p.x, .int .i64 p.y, .int .i64 p.z, .int .i64 p.p, .int .i64 p.q, .int .i64 p.s, .int .i64 q.t, .int .i64 q.x, .int .i64 q.y, .int .i64 q.z, .int .i64 q.p, .int .i64 q.q, .int .i64 q.s]] w fun e w' => e = .returned (.int .i64 (q.t - p.t)) ∧ w.grownBy w' none := by
  have rd : IntKind.i64.wrap (q.t - p.t) = q.t - p.t := IntWalk.i64_in _ (by omega)
  obtain ⟨pt, px, py, pz, pp, pq, ps⟩ := p
  obtain ⟨qt, qx, qy, qz, qp, qq, qs⟩ := q
  simp only at rd ⊢
  go_enter Try.func70, Try.ntmps70
  go_wp2_with fail
  go_ret
  exact ⟨rfl, World.grownBy_alloc _ _ _⟩

set_option maxRecDepth 100000 in
set_option maxHeartbeats 8000000 in
theorem Splits_ok (nm : ByteArray) (sp st : Int) (so : Option Addr) (sc : Nat) (ss : List Smp) (lo : Option Addr) (lc : Nat) (ls : List LapV) (to_ : Option Addr) (tc : Nat) (ts : List ByteArray) (way : Int) (w0 : 1 ≤ way) (w1 : way ≤ 1000000000) (w : World)
    (HA : Hid (ActAt w ⟨nm, sp, st, so, sc, ss, lo, lc, ls, to_, tc, ts⟩)) (HCE : Hid (chkE ⟨nm, sp, st, so, sc, ss, lo, lc, ls, to_, tc, ts⟩ = 0)) (HS : Hid (SOk ss)) (HP : Hid (∀ x ∈ ss, inPlane x)) :
    Calls Try.prog 49 #[.agg #[.string nm, .int .i64 sp, .int .i64 st, .slice so ss.length sc, .slice lo ls.length lc, .slice to_ ts.length tc], .int .i64 way] w fun x w' => (∃ v E n, x = .returned (.tuple #[v, .int .i64 E]) ∧ (n, E) = splitsE ⟨nm, sp, st, so, sc, ss, lo, lc, ls, to_, tc, ts⟩ way ∧ w'.ownsRow w.heap.size 67 2 v n (splVs ss way n)) ∧ w.grownBy w' none := by
  have hl : (ss.length : Int) ≤ 20000 := HS.out.len
  have hll : ss.length ≤ 20000 := by omega
  obtain ⟨i0, hi, hz0, hz1, hz2⟩ := info_parts info_split
  have HI0 := Lib.hid hi; have HZ0 := Lib.hid hz0; have HZ1 := Lib.hid hz1; have HZ2 := Lib.hid hz2
  clear hi hz0 hz1 hz2
  refine (callsIn_wide (n := 4)).1 ?_
  refine callsIn_of_wp_marks Try.func49 rfl trivial ?_ rfl
  simp only [Try.ntmps49, List.size_toArray, List.length_cons, List.length_nil, Nat.reduceAdd, Nat.reduceSub, Array.replicate_succ, Array.replicate_zero, List.push_toArray, List.append_toArray, List.nil_append, List.cons_append]
  have G4 : Hid (w.grownBy ((((w.alloc (.cells #[.string nm, .int .i64 sp, .int .i64 st, .slice so ss.length sc, .slice lo ls.length lc, .slice to_ ts.length tc] 26)).alloc (.cells #[.int .i64 way] 3)).alloc (.cells #[.slice none 0 0] 62)).alloc (.cells #[.int .i64 0] 29)) none) := grown_trans (grown_trans (grown_trans (World.grownBy_alloc _ _ _) (World.grownBy_alloc _ _ _)) (World.grownBy_alloc _ _ _)) (World.grownBy_alloc _ _ _)
  have HM4 : Hid (((((w.alloc (.cells #[.string nm, .int .i64 sp, .int .i64 st, .slice so ss.length sc, .slice lo ls.length lc, .slice to_ ts.length tc] 26)).alloc (.cells #[.int .i64 way] 3)).alloc (.cells #[.slice none 0 0] 62)).alloc (.cells #[.int .i64 0] 29)).cell? ⟨w.heap.size, 3, none⟩ = some (.slice so ss.length sc) ∧ Boxed ((((w.alloc (.cells #[.string nm, .int .i64 sp, .int .i64 st, .slice so ss.length sc, .slice lo ls.length lc, .slice to_ ts.length tc] 26)).alloc (.cells #[.int .i64 way] 3)).alloc (.cells #[.slice none 0 0] 62)).alloc (.cells #[.int .i64 0] 29)) (w.heap.size + 1) 3 (.int .i64 way) ∧ Boxed ((((w.alloc (.cells #[.string nm, .int .i64 sp, .int .i64 st, .slice so ss.length sc, .slice lo ls.length lc, .slice to_ ts.length tc] 26)).alloc (.cells #[.int .i64 way] 3)).alloc (.cells #[.slice none 0 0] 62)).alloc (.cells #[.int .i64 0] 29)) (w.heap.size + 2) 62 (.slice none 0 0) ∧ Boxed ((((w.alloc (.cells #[.string nm, .int .i64 sp, .int .i64 st, .slice so ss.length sc, .slice lo ls.length lc, .slice to_ ts.length tc] 26)).alloc (.cells #[.int .i64 way] 3)).alloc (.cells #[.slice none 0 0] 62)).alloc (.cells #[.int .i64 0] 29)) (w.heap.size + 3) 29 (.int .i64 0)) := by
    have b1 := Boxed.new (w.alloc (.cells #[.string nm, .int .i64 sp, .int .i64 st, .slice so ss.length sc, .slice lo ls.length lc, .slice to_ ts.length tc] 26)) 3 (.int .i64 way)
    have b2 := Boxed.new ((w.alloc (.cells #[.string nm, .int .i64 sp, .int .i64 st, .slice so ss.length sc, .slice lo ls.length lc, .slice to_ ts.length tc] 26)).alloc (.cells #[.int .i64 way] 3)) 62 (.slice none 0 0)
    have b3 := Boxed.new (((w.alloc (.cells #[.string nm, .int .i64 sp, .int .i64 st, .slice so ss.length sc, .slice lo ls.length lc, .slice to_ ts.length tc] 26)).alloc (.cells #[.int .i64 way] 3)).alloc (.cells #[.slice none 0 0] 62)) 29 (.int .i64 0)
    refine ⟨by go_simp, ?_, ?_, ?_⟩
    · have := (b1.alloc (.cells #[.slice none 0 0] 62)).alloc (.cells #[.int .i64 0] 29); simpa using this
    · have := b2.alloc (.cells #[.int .i64 0] 29); simpa using this
    · simpa using b3
  have hmx : Try.prog.follows .mixedOrders = true := by kernel_rfl
  gi_wp2_with (refine ⟨trivial, ?_⟩; first
    | (gi_at_call 54; refine (callsIn_wide.2 (check_any ⟨nm, sp, st, so, sc, ss, lo, lc, ls, to_, tc, ts⟩ _ (HA.out.grown G4.out) HCE)).mono ?_; rintro e w2 ⟨rfl, hg2⟩; have HG2 := Lib.hid hg2; have y1 : w2.cell? ⟨w.heap.size + 1, 0, none⟩ = some (.int .i64 way) := grown_cell hg2 HM4.out.2.1.cell; have y2 : (w2.alloc (.cells #[.slice none 0 0] 62)).cell? ⟨w.heap.size + 1, 0, none⟩ = some (.int .i64 way) := grown_cell (World.grownBy_alloc _ _ _) y1; clear hg2)
    | (gi_at_call 55; refine (callsIn_wide.2 (twithin_yes _ _ _ w0 w1 _)).mono ?_; rintro e w' ⟨rfl, rfl⟩))
  have hsz : (w2.alloc (.cells #[.slice none 0 0] 62)).drew.heap.size = w2.heap.size + 1 := by simp [World.drew]
  have hl2 := (sp0_two (w := w) (V := (w2.alloc (.cells #[.slice none 0 0] 62)).drew) (Bl := w2.heap.size) (so := so) (sn := ss.length) (sc := sc) (way := way)
    (grown_cell (grown_trans HG2.out (grown_trans (World.grownBy_alloc _ _ none) (grown_drewN _ _ 1))) HM4.out.1) (HM4.out.2.1.kept (grown_trans HG2.out (grown_trans (World.grownBy_alloc _ _ none) (grown_drewN _ _ 1))) (by simp)) (HM4.out.2.2.1.kept (grown_trans HG2.out (grown_trans (World.grownBy_alloc _ _ none) (grown_drewN _ _ 1))) (by simp)) (HM4.out.2.2.2.kept (grown_trans HG2.out (grown_trans (World.grownBy_alloc _ _ none) (grown_drewN _ _ 1))) (by simp))
    ((Boxed.new w2 62 (.slice none 0 0)).kept (row := none) (grown_drewN _ _ 1) (by simp)) (below_grown (grown_trans G4.out (grown_trans HG2.out (grown_trans (World.grownBy_alloc _ _ none) (grown_drewN _ _ 1)))))
    (by have h1 := HG2.out.size; simp at h1; omega))
  rw [hsz] at hl2
  have HL := Lib.hid hl2
  clear hl2
  obtain ⟨Bl, hBl⟩ : ∃ Bl, Bl = w2.heap.size := ⟨_, rfl⟩
  have HBL := Lib.hid hBl
  rename_i KK hKK
  have REST : ∀ (Bg Bn : Nat) (V : World), Hid (Sp0 w Bl Bg Bn so ss.length sc way V) → KK { tmps := (.agg #[.string nm, .int .i64 sp, .int .i64 st, .slice so ss.length sc, .slice lo ls.length lc, .slice to_ ts.length tc] :: .int .i64 way :: .pointer (some ⟨w.heap.size, 0, none⟩) :: .pointer (some ⟨w.heap.size + 1, 0, none⟩) :: .pointer (some ⟨w.heap.size + 1 + 1, 0, none⟩) :: .pointer (some ⟨w.heap.size + 1 + 1 + 1, 0, none⟩) :: .int .i64 0 :: .pointer (some ⟨Bl, 0, none⟩) :: .pointer (some ⟨Bg, 0, none⟩) :: .pointer (some ⟨Bn, 0, none⟩) :: undef :: undef :: undef :: undef :: .agg #[.string nm, .int .i64 sp, .int .i64 st, .slice so ss.length sc, .slice lo ls.length lc, .slice to_ ts.length tc] :: .int .i64 0 :: .int .i64 0 :: .bool false :: undef :: .int .i64 way :: .bool true :: .bool false :: .int .i64 way :: undef :: undef :: undef :: undef :: undef :: undef :: undef :: undef :: undef :: undef :: undef :: undef :: undef :: undef :: undef :: undef :: undef :: undef :: undef :: undef :: undef :: undef :: undef :: undef :: undef :: undef :: undef :: undef :: undef :: undef :: undef :: undef :: undef :: undef :: undef :: undef :: undef :: undef :: undef :: undef :: undef :: undef :: undef :: []).toArray, defers := [] } V := by
    intro Bg Bn V H0
    clear HL y1 y2 hBl HBL HG2 HM4 G4
    refine hKK _ _ ?_
    have b3 := H0.out.b3
    gi_wp2_with (refine ⟨trivial, ?_⟩; gi_at_call 111; refine (callsIn_wide.2 (steps_any _ _ _ _)).mono ?_; rintro e w' ⟨rfl, rfl⟩)
    have hV := H0.out
    obtain ⟨W0, hW0⟩ : ∃ W0, V.alloc (.cells #[.slice so ss.length sc] 22) = W0 := ⟨_, rfl⟩
    obtain ⟨Bs, hBs⟩ : ∃ Bs, V.heap.size = Bs := ⟨_, rfl⟩
    have hsz0 : W0.heap.size = Bs + 1 := by rw [← hW0, ← hBs]; simp
    have h00 : Sp0 w Bl Bg Bn so ss.length sc way W0 := by rw [← hW0]; exact hV.grown (World.grownBy_alloc _ _ _)
    have bS : Boxed W0 Bs 22 (.slice so ss.length sc) := by rw [← hW0, ← hBs]; exact Boxed.new _ _ _
    have D : SpD w.heap.size Bl Bg Bn Bs W0.heap.size := by
      have l1 := hV.g.lt; have l2 := hV.x.lt
      obtain ⟨d1, d2, d3, d4⟩ := hV.d
      exact ⟨d1, d2, d3, d4, by omega, by omega, by omega⟩
    have hnx0 : nxW way 0 = way := by unfold nxW; simp
    have hB0 : SpB w Bl Bg Bn Bs (.slice so ss.length sc) way 0 (nxW way 0) (.slice none 0 0) W0 := ⟨h00.y, h00.r4, h00.r5, h00.l, h00.g, by rw [hnx0]; exact h00.x, bS, h00.b⟩
    have hs0 : SmpsAt W0 so ss := (HA.out.hs).grown (grown_below h00.b)
    have HAO := Lib.hid ((HA.out.hs).block)
    have DH := Lib.hid D; have HS0 := Lib.hid hs0; have HB0 := Lib.hid hB0
    have hn0s : w.heap.size ≤ W0.heap.size := h00.b.size
    rw [hW0, hBs]
    clear hW0 hBs b3 hV h00 D H0 hs0
    refine wpIn_rangeFunc_ownH (α := StepNo ss) rfl (by omega) (gf := 148) (lb := #[.pointer (some ⟨Bs, 0, none⟩)]) rfl trivial (enters_of Try.func148 (by kernel_rfl) rfl)
      (encs := fun x => #[stepV ss x.1]) (Kp := KpB w.heap.size Bs) (S := fun ys => ys.map (·.1) = List.range (ss.length - 1)) (Sp := fun pre => ∃ k, k < ss.length ∧ pre.map (·.1) = List.range k) (N := ss.length) (w0 := W0) ?seq kpB_t ?kb (Below.refl _ _) (fun _ => rfl)
      (fun pre W => ∃ v, SpB w Bl Bg Bn Bs (.slice so ss.length sc) way (sP ss way pre).1 (nxW way (nP way (sP ss way pre).1)) v W ∧ W.ownsRow W0.heap.size 67 2 v (nP way (sP ss way pre).1) (sP ss way pre).2 ∧ nP way (sP ss way pre).1 ≤ 10000)
      (fun c pre W => c = .ret ∧ 10000 < nP way (sP ss way pre).1 ∧ Boxed W (w.heap.size + 2) 62 (.slice none 0 0) ∧ Boxed W (w.heap.size + 3) 29 (.int .i64 3) ∧ Below w.heap.size w W)
      (fun pre X Y row hs hg hr => by
        obtain ⟨v, h1, h2, h3⟩ := hs
        exact ⟨v, h1.own hn0s hg hr, own_cells h2 hg (fun r e => (hr r e).2), h3⟩)
      (fun c pre X Y row hs hg hr => by
        obtain ⟨h1, h2, h3, h4, h5⟩ := hs
        have k : ∀ {C : Nat} {t : TypeId} {u : Value}, Boxed X C t u → Boxed Y C t u := fun {C t u} hb => hb.kept hg (fun e => by
          obtain ⟨_, o, ho, hc⟩ := hr C e.symm
          rw [show X.heap[C]? = _ from hb] at ho; cases ho; cases hc)
        exact ⟨h1, h2, k h3, k h4, h5.grown hg h5.size (fun r e => Nat.le_trans hn0s (hr r e).1)⟩)
      ⟨.slice none 0 0, by show SpB w Bl Bg Bn Bs _ way 0 (nxW way (nP way 0)) _ W0; rw [nP_zero]; exact hB0, by show World.ownsRow _ _ _ _ _ (nP way 0) []; rw [nP_zero]; exact World.ownsRow_nil _ _ _ _, by show nP way 0 ≤ 10000; rw [nP_zero]; omega⟩
      (fun x a' W => ∃ Bx, W0.heap.size ≤ Bx ∧ W.heap[Bx]? = some (.cells (stepC ss x.1) 85 (0, 0)) ∧ a' = { tmps := (.agg #[.string nm, .int .i64 sp, .int .i64 st, .slice so ss.length sc, .slice lo ls.length lc, .slice to_ ts.length tc] :: .int .i64 way :: .pointer (some ⟨w.heap.size, 0, none⟩) :: .pointer (some ⟨w.heap.size + 1, 0, none⟩) :: .pointer (some ⟨w.heap.size + 1 + 1, 0, none⟩) :: .pointer (some ⟨w.heap.size + 1 + 1 + 1, 0, none⟩) :: .int .i64 0 :: .pointer (some ⟨Bl, 0, none⟩) :: .pointer (some ⟨Bg, 0, none⟩) :: .pointer (some ⟨Bn, 0, none⟩) :: .pointer (some ⟨Bx, 0, none⟩) :: undef :: undef :: undef :: .agg #[.string nm, .int .i64 sp, .int .i64 st, .slice so ss.length sc, .slice lo ls.length lc, .slice to_ ts.length tc] :: .int .i64 0 :: .int .i64 0 :: .bool false :: undef :: .int .i64 way :: .bool true :: .bool false :: .int .i64 way :: .pointer (some ⟨w.heap.size, 3, none⟩) :: .slice so ss.length sc :: .func (.func 148) #[] #[.pointer (some ⟨Bs, 0, none⟩)] :: stepV ss x.1 :: undef :: undef :: undef :: undef :: undef :: undef :: undef :: undef :: undef :: undef :: undef :: undef :: undef :: undef :: undef :: undef :: undef :: undef :: undef :: undef :: undef :: undef :: undef :: undef :: undef :: undef :: undef :: undef :: undef :: undef :: undef :: undef :: undef :: undef :: undef :: undef :: undef :: undef :: undef :: []).toArray, defers := [] })
      (fun x a' _ X Y row hs hg hr => by obtain ⟨Bx, h1, h2, h3⟩ := hs; exact ⟨Bx, h1, block_kept h2 rfl hg (fun r e => (hr r e).2), h3⟩)
      ?assign ?body ?done ?stop
    case seq =>
      intro l J Jx W hW hJ _ hY h0
      have hbW : W.heap[Bs]? = W0.heap[Bs]? := hW.block _ (by omega)
      refine (steps1_in 3 (by omega) l Bs w.heap.size so sc ss hl HAO.out J Jx (fun pre V m hj => hJ pre V _ none hj (grown_drewN V none m) (fun r h => by cases h)) hY W ((World.cell?_of_block (a := ⟨Bs, 0, none⟩) hbW).trans HB0.out.s.cell) (HS0.out.grown (grown_below hW)) h0).mono ?_
      rintro e W' ⟨he, h | ⟨pre, hk, hj⟩⟩
      · exact ⟨he, .inl h⟩
      · exact ⟨he, .inr ⟨pre, hk, hj⟩⟩
    case kb =>
      intro W l o o' hlW ho hc hwk
      exact ⟨belowK_b (w := W0) (by omega) W l o o' hlW ho hc hwk, World.putObj_heap_other (by omega)⟩
    case assign =>
      rintro l pre x W K ⟨v, hB1, hO1, hn1⟩ hK
      unfold stepV at *
      gi_wp2
      have hls := hB1.s.lt
      refine hK _ _ ((KeepsOthers.alloc _ _).from _) ⟨(Below.refl _ W).alloc hB1.b.size _, ?_⟩ ⟨v, hB1.grown DH.out (World.grownBy_alloc _ _ none) (fun r e => by cases e), own_cells hO1 (World.grownBy_alloc _ _ none) (fun r e => by cases e), hn1⟩ ⟨W.heap.size, by omega, World.alloc_heap_new W _, rfl⟩
      exact Below.heap_alloc _ _ _ hls
    case body =>
      rintro l pre x a' W hlr ⟨r, hr⟩ ⟨v, hB, hO, hn⟩ ⟨Bx, hBx, bX, rfl⟩ hlt
      have HSZ := Lib.hid hsz0
      clear hsz0
      obtain ⟨k, hk⟩ : ∃ k, x.1 = k := ⟨_, rfl⟩
      have hkl : k + 1 < ss.length := by rw [← hk]; exact x.2
      have hsn := sP_snoc ss way pre x
      have hgb := sP_bd HP.out way pre
      rw [hk] at bX hsn
      obtain ⟨⟨g0, xs0⟩, hs0⟩ : ∃ s, sP ss way pre = s := ⟨_, rfl⟩
      rw [hs0] at hB hO hn hsn hgb
      simp only at hB hO hn hsn hgb
      have hsw := stepW_bd (smpD_plane HP.out k) (smpD_plane HP.out (k + 1))
      have hin0 := HS.out.inn k (by omega); have hin1 := HS.out.inn (k + 1) hkl; have hup := HS.out.up k hkl
      obtain ⟨lg, hlg⟩ : ∃ v, stepW (smpD ss k) (smpD ss (k + 1)) = v := ⟨_, rfl⟩
      rw [hlg] at hsn hsw
      have HLG := Lib.hid hlg
      have hg6 : g0 ≤ 6000000000000 := by omega
      have hg0 : 0 ≤ g0 := hgb.1
      have HSN := Lib.hid hsn
      have bt0 : 0 ≤ (smpD ss k).t ∧ (smpD ss k).t ≤ 1000000 := ⟨hin0.1, hin0.2.1⟩
      have bt1 : 0 < (smpD ss (k + 1)).t - (smpD ss k).t ∧ (smpD ss (k + 1)).t - (smpD ss k).t ≤ 1000000 := by have := hin1.1; have := hin1.2.1; omega
      obtain ⟨x0, x1, x2, x3, x4, x5, x6, x7, x8, x9, x10, x11, x12, x13, x14⟩ : W.cell? ⟨Bx, 0, none⟩ = some (.int .i64 k) ∧ W.cell? ⟨Bx, 1, none⟩ = some (.int .i64 (smpD ss k).t) ∧ W.cell? ⟨Bx, 2, none⟩ = some (.int .i64 (smpD ss k).x) ∧ W.cell? ⟨Bx, 3, none⟩ = some (.int .i64 (smpD ss k).y) ∧ W.cell? ⟨Bx, 4, none⟩ = some (.int .i64 (smpD ss k).z) ∧ W.cell? ⟨Bx, 5, none⟩ = some (.int .i64 (smpD ss k).p) ∧ W.cell? ⟨Bx, 6, none⟩ = some (.int .i64 (smpD ss k).q) ∧ W.cell? ⟨Bx, 7, none⟩ = some (.int .i64 (smpD ss k).s) ∧ W.cell? ⟨Bx, 8, none⟩ = some (.int .i64 (smpD ss (k + 1)).t) ∧ W.cell? ⟨Bx, 9, none⟩ = some (.int .i64 (smpD ss (k + 1)).x) ∧ W.cell? ⟨Bx, 10, none⟩ = some (.int .i64 (smpD ss (k + 1)).y) ∧ W.cell? ⟨Bx, 11, none⟩ = some (.int .i64 (smpD ss (k + 1)).z) ∧ W.cell? ⟨Bx, 12, none⟩ = some (.int .i64 (smpD ss (k + 1)).p) ∧ W.cell? ⟨Bx, 13, none⟩ = some (.int .i64 (smpD ss (k + 1)).q) ∧ W.cell? ⟨Bx, 14, none⟩ = some (.int .i64 (smpD ss (k + 1)).s) := ⟨step_cells bX 0 _ rfl, step_cells bX 1 _ rfl, step_cells bX 2 _ rfl, step_cells bX 3 _ rfl, step_cells bX 4 _ rfl, step_cells bX 5 _ rfl, step_cells bX 6 _ rfl, step_cells bX 7 _ rfl, step_cells bX 8 _ rfl, step_cells bX 9 _ rfl, step_cells bX 10 _ rfl, step_cells bX 11 _ rfl, step_cells bX 12 _ rfl, step_cells bX 13 _ rfl, step_cells bX 14 _ rfl⟩
      have HX := Lib.hid bX; have HB := Lib.hid hB; have HO := Lib.hid hO
      unfold stepV
      rw [hk]
      clear hk hs0 hlg hr hlt hlr hgb hsn hin0 hin1 hup bX hB hO
      gi_wp2
      refine ⟨trivial, CallsIn.inRound l (callsIn_wide.2 ((way_is (k : Int) (smpD ss k) (smpD ss (k + 1)) (smpD_plane HP.out k) (smpD_plane HP.out (k + 1)) _ HLG).mono ?_))⟩
      rintro e w2 ⟨rfl, hg2⟩
      clear x0 x1 x2 x3 x4 x5 x6 x7 x8 x9 x10 x11 x12 x13 x14
      have HB2 := Lib.hid (HB.out.grown DH.out hg2 (fun r e => by cases e))
      have HO2 := Lib.hid (own_cells HO.out hg2 (fun r e => by cases e))
      have HX2 : Hid (w2.heap[Bx]? = some (.cells (stepC ss k) 85 (0, 0))) := (hg2.block _ (lt_of_block HX.out) (by simp)).trans HX.out
      have HKO : Hid (KeepsOthers W w2) := KeepsOthers.of_grownBy hg2 (fun j o e => by cases e)
      have HKP : Hid (KpB w.heap.size Bs W w2) := ⟨(below_grown hg2).mono HB.out.b.size, hg2.block _ HB.out.s.lt (by simp)⟩
      clear hg2
      gi_wp2
      gi_loopw [] (fun wr => ∃ (m : Nat) (v : Value), nP way g0 ≤ m ∧ m ≤ 10000 ∧ m ≤ nP way (g0 + lg) ∧ Hid (SpB w Bl Bg Bn Bs (.slice so ss.length sc) way g0 (nxW way m) v wr) ∧ Hid (wr.ownsRow W0.heap.size 67 2 v m (xs0 ++ evVs ss way g0 k (nP way g0) (m - nP way g0))) ∧ Hid (wr.heap[Bx]? = some (.cells (stepC ss k) 85 (0, 0))) ∧ Hid (KeepsOthers W wr) ∧ Hid (KpB w.heap.size Bs W wr))
        (fun wr => (g0 + lg + 1 - cellI wr Bn).toNat)
      case atStart => exact ⟨nP way g0, v, Nat.le_refl _, hn, nP_up w0 hg0 (by omega), HB2.out, by show World.ownsRow _ _ _ _ _ _ _; rw [Nat.sub_self]; simpa [evVs] using HO2.out, HX2.out, HKO.out, HKP.out⟩
      case round =>
        obtain ⟨m, v, h1, h2, h3, hB, hO, hX, hKO, hKP⟩ := hrel
        have cN := hB.out.x.cell; have cG := hB.out.g.cell; have cL := hB.out.l.cell; have cY := hB.out.y.cell
        have nb := nxW_bd w0 w1 h2
        have rs : IntKind.i64.wrap (g0 + lg) = g0 + lg := IntWalk.i64_in _ (by omega)
        have hgm : g0 < nxW way m := by
          rcases Int.lt_or_le g0 (nxW way m) with q | q
          · exact q
          · have := (nP_iff w0 hg0 m).2 q; omega
        by_cases hle : nxW way m ≤ g0 + lg
        · have hlt : m < nP way (g0 + lg) := (nP_iff w0 (by omega) m).2 hle
          obtain ⟨nx, hnx⟩ : ∃ nx, nxW way m = nx := ⟨_, rfl⟩
          rw [hnx] at cN nb hgm hle
          have HNX := Lib.hid hnx
          obtain ⟨vo, vc, rfl⟩ := own_slice hO.out
          by_cases hm : m = 10000
          · have e4 := hB.out.r4.frozen; have e5 := hB.out.r5.frozen; have d4 := hB.out.r4.cell; have d5 := hB.out.r5.cell
            have d5' := (hB.out.r5.other (B' := w.heap.size + 2) (by omega) (.slice none 0 0)).cell
            have e5' := (hB.out.r5.other (B' := w.heap.size + 2) (by omega) (.slice none 0 0)).frozen
            have hm2 : (m : Int) = 10000 := by omega
            have HW : Hid (Boxed ((wr.setCell ⟨w.heap.size + 2, 0, none⟩ (.slice none 0 0)).setCell ⟨w.heap.size + 3, 0, none⟩ (.int .i64 3)) (w.heap.size + 2) 62 (.slice none 0 0) ∧ Boxed ((wr.setCell ⟨w.heap.size + 2, 0, none⟩ (.slice none 0 0)).setCell ⟨w.heap.size + 3, 0, none⟩ (.int .i64 3)) (w.heap.size + 3) 29 (.int .i64 3) ∧ Below w.heap.size w ((wr.setCell ⟨w.heap.size + 2, 0, none⟩ (.slice none 0 0)).setCell ⟨w.heap.size + 3, 0, none⟩ (.int .i64 3))) :=
              ⟨(hB.out.r4.set _).other (by omega) _, (hB.out.r5.other (by omega) _).set _, (hB.out.b.setCell (by show _ ≤ w.heap.size + 2; omega) _).setCell (by show _ ≤ w.heap.size + 3; omega) _⟩
            have HKO3 : Hid (KeepsOthers W ((wr.setCell ⟨w.heap.size + 2, 0, none⟩ (.slice none 0 0)).setCell ⟨w.heap.size + 3, 0, none⟩ (.int .i64 3))) := (hKO.out.trans (KeepsOthers.setCell _ _ _)).trans (KeepsOthers.setCell _ _ _)
            gi_wp2
            refine ⟨HKO3.out.from _, rfl, ?_, HW.out.1, HW.out.2.1, HW.out.2.2⟩
            rw [HSN.out]; show 10000 < nP way (g0 + lg); omega
          · have hm9 : m < 10000 := by omega
            have hme : ((m : Int) == 10000) = false := by simp; omega
            have HC : Hid (∀ V, wr.drew.grownBy V none → V.cell? ⟨Bn, 0, none⟩ = some (.int .i64 nx) ∧ V.cell? ⟨Bg, 0, none⟩ = some (.int .i64 g0) ∧ V.cell? ⟨Bx, 0, none⟩ = some (.int .i64 k) ∧ V.cell? ⟨Bx, 1, none⟩ = some (.int .i64 (smpD ss k).t) ∧ V.cell? ⟨Bx, 2, none⟩ = some (.int .i64 (smpD ss k).x) ∧ V.cell? ⟨Bx, 3, none⟩ = some (.int .i64 (smpD ss k).y) ∧ V.cell? ⟨Bx, 4, none⟩ = some (.int .i64 (smpD ss k).z) ∧ V.cell? ⟨Bx, 5, none⟩ = some (.int .i64 (smpD ss k).p) ∧ V.cell? ⟨Bx, 6, none⟩ = some (.int .i64 (smpD ss k).q) ∧ V.cell? ⟨Bx, 7, none⟩ = some (.int .i64 (smpD ss k).s) ∧ V.cell? ⟨Bx, 8, none⟩ = some (.int .i64 (smpD ss (k + 1)).t) ∧ V.cell? ⟨Bx, 9, none⟩ = some (.int .i64 (smpD ss (k + 1)).x) ∧ V.cell? ⟨Bx, 10, none⟩ = some (.int .i64 (smpD ss (k + 1)).y) ∧ V.cell? ⟨Bx, 11, none⟩ = some (.int .i64 (smpD ss (k + 1)).z) ∧ V.cell? ⟨Bx, 12, none⟩ = some (.int .i64 (smpD ss (k + 1)).p) ∧ V.cell? ⟨Bx, 13, none⟩ = some (.int .i64 (smpD ss (k + 1)).q) ∧ V.cell? ⟨Bx, 14, none⟩ = some (.int .i64 (smpD ss (k + 1)).s)) := fun V hV => by
              have q := fun (i : Nat) (u : Value) (hi : (stepC ss k)[i]? = some u) => grown_cell (w := wr.drew) hV (step_cells (t := 85) hX.out i u hi)
              exact ⟨grown_cell (w := wr.drew) hV cN, grown_cell (w := wr.drew) hV cG, q 0 _ rfl, q 1 _ rfl, q 2 _ rfl, q 3 _ rfl, q 4 _ rfl, q 5 _ rfl, q 6 _ rfl, q 7 _ rfl, q 8 _ rfl, q 9 _ rfl, q 10 _ rfl, q 11 _ rfl, q 12 _ rfl, q 13 _ rfl, q 14 _ rfl⟩
            have rsub : IntKind.i64.wrap (nx - g0) = nx - g0 := IntWalk.i64_in _ (by omega)
            obtain ⟨dt, hdt⟩ : ∃ dt, (smpD ss (k + 1)).t - (smpD ss k).t = dt := ⟨_, rfl⟩
            have bdt : 0 < dt ∧ dt ≤ 1000000 := by rw [← hdt]; exact bt1
            have rmul : IntKind.i64.wrap (1000 * dt) = 1000 * dt := IntWalk.i64_in _ (by omega)
            obtain ⟨sc0, sc1, sc2, _⟩ := scale_up (a := nx - g0) (num := 1000 * dt) (den := lg) (by omega) (by omega) (by omega) (by omega) (by omega)
            obtain ⟨b, hb⟩ : ∃ b, (scaleV (nx - g0) (1000 * dt) lg 2).1 = b := ⟨_, rfl⟩
            rw [hb] at sc0 sc1
            have HSC := Lib.hid sc2; have HBV := Lib.hid hb; have HDT := Lib.hid hdt
            have rat0 : IntKind.i64.wrap (1000 * (smpD ss k).t) = 1000 * (smpD ss k).t := IntWalk.i64_in _ (by omega)
            have rat : IntKind.i64.wrap (1000 * (smpD ss k).t + b) = 1000 * (smpD ss k).t + b := IntWalk.i64_in _ (by omega)
            have HEV : Hid (splCs (evV ss way g0 k m) = [.int .i64 nx, .int .i64 (1000 * (smpD ss k).t + b)]) := by
              show _ = _
              unfold splCs evV
              rw [HLG.out, hdt, show ((m : Int) + 1) * way = nx from hnx, hb]
            have HVS : Hid (xs0 ++ evVs ss way g0 k (nP way g0) (m + 1 - nP way g0) = (xs0 ++ evVs ss way g0 k (nP way g0) (m - nP way g0)) ++ [.int .i64 nx, .int .i64 (1000 * (smpD ss k).t + b)]) := by
              show _ = _
              rw [show m + 1 - nP way g0 = (m - nP way g0) + 1 by omega, evVs_succ, show nP way g0 + (m - nP way g0) = m by omega, HEV.out, List.append_assoc]
            have rn : IntKind.i64.wrap (nx + way) = nx + way := IntWalk.i64_in _ (by omega)
            have hnx2 : Hid (nxW way (m + 1) = nx + way) := by show _ = _; rw [nxW_succ, hnx]
            have rdt : IntKind.i64.wrap ((smpD ss (k + 1)).t - (smpD ss k).t) = dt := by rw [hdt]; exact IntWalk.i64_in _ (by omega)
            have hS0 : wr.drew.grownBy wr.drew none := World.grownBy.refl _ _
            clear hnx hb sc2 hdt
            gi_wp2
            refine region_in_round (S := fun V => wr.drew.grownBy V none) hmx (by kernel_rfl) (fun ⟨_, _, h⟩ => h) hS0 (fun hHeld => ?_)
            refine wpAnyH_take (i := 0) (oi := ?oia0) (v := .int .i64 nx) ?hia0 (by kernel_rfl) (by kernel_rfl) (by kernel_rfl) ?hqa0 ?hya0 hHeld ?resta0
            case hia0 => simp only [List.getElem?_toArray, List.getElem?_cons_succ, List.getElem?_cons_zero, Option.some.injEq]; rfl
            case hqa0 => exact fun _ _ _ h => h
            case hya0 =>
              refine Or.inl ⟨by rfl, fun V hV => ?_⟩
              have q1 := (HC.out V hV).1; clear hV
              go_simp
            try simp only [Go.Act.put, List.setIfInBounds_toArray, List.set_cons_zero, List.set_cons_succ]
            refine wpAnyH_take (i := 1) (oi := ?oia1) (v := .int .i64 g0) ?hia1 (by kernel_rfl) (by kernel_rfl) (by kernel_rfl) ?hqa1 ?hya1 hHeld ?resta1
            case hia1 => simp only [List.getElem?_toArray, List.getElem?_cons_succ, List.getElem?_cons_zero, Option.some.injEq]; rfl
            case hqa1 => exact fun _ _ _ h => h
            case hya1 =>
              refine Or.inl ⟨by rfl, fun V hV => ?_⟩
              have q1 := (HC.out V hV).2.1; clear hV
              go_simp
            try simp only [Go.Act.put, List.setIfInBounds_toArray, List.set_cons_zero, List.set_cons_succ]
            refine wpAnyH_take (i := 2) (oi := ?oia2) (v := .int .i64 (nx - g0)) ?hia2 (by kernel_rfl) (by kernel_rfl) (by kernel_rfl) ?hqa2 ?hya2 hHeld ?resta2
            case hia2 => simp only [List.getElem?_toArray, List.getElem?_cons_succ, List.getElem?_cons_zero, Option.some.injEq]; rfl
            case hqa2 => exact fun _ _ _ h => h
            case hya2 =>
              refine Or.inl ⟨by rfl, fun V hV => ?_⟩
              clear hV
              go_simp
            try simp only [Go.Act.put, List.setIfInBounds_toArray, List.set_cons_zero, List.set_cons_succ]
            refine wpAnyH_take (i := 3) (oi := ?oia3) (v := .agg #[.int .i64 k, .int .i64 (smpD ss k).t, .int .i64 (smpD ss k).x, .int .i64 (smpD ss k).y, .int .i64 (smpD ss k).z, .int .i64 (smpD ss k).p, .int .i64 (smpD ss k).q, .int .i64 (smpD ss k).s, .int .i64 (smpD ss (k + 1)).t, .int .i64 (smpD ss (k + 1)).x, .int .i64 (smpD ss (k + 1)).y, .int .i64 (smpD ss (k + 1)).z, .int .i64 (smpD ss (k + 1)).p, .int .i64 (smpD ss (k + 1)).q, .int .i64 (smpD ss (k + 1)).s]) ?hia3 (by kernel_rfl) (by kernel_rfl) (by kernel_rfl) ?hqa3 ?hya3 hHeld ?resta3
            case hia3 => simp only [List.getElem?_toArray, List.getElem?_cons_succ, List.getElem?_cons_zero, Option.some.injEq]; rfl
            case hqa3 => exact fun _ _ _ h => h
            case hya3 =>
              refine Or.inl ⟨by rfl, fun V hV => ?_⟩
              obtain ⟨_, _, z0, z1, z2, z3, z4, z5, z6, z7, z8, z9, z10, z11, z12, z13, z14⟩ := HC.out V hV; clear hV
              go_simp
            try simp only [Go.Act.put, List.setIfInBounds_toArray, List.set_cons_zero, List.set_cons_succ]
            refine wpAnyH_take (i := 6) (oi := ?oia6) (v := .int .i64 lg) ?hia6 (by kernel_rfl) (by kernel_rfl) (by kernel_rfl) ?hqa6 ?hya6 hHeld ?resta6
            case hia6 => simp only [List.getElem?_toArray, List.getElem?_cons_succ, List.getElem?_cons_zero, Option.some.injEq]; rfl
            case hqa6 => exact fun _ _ _ h => h
            case hya6 =>
              refine Or.inl ⟨by rfl, fun V hV => ?_⟩
              clear hV
              go_simp
            try simp only [Go.Act.put, List.setIfInBounds_toArray, List.set_cons_zero, List.set_cons_succ]
            refine wpAnyH_ready (rs := [4]) (by kernel_rfl) (by simp) ?_
            refine AllReadyH.cons rfl (fun K hK => ?_) AllReadyH.nil
            go_simp
            refine (seconds_is (k : Int) (smpD ss k) (smpD ss (k + 1)) (by omega) _).mono ?_
            rintro e w5 ⟨rfl, hg5⟩
            refine hK.out _ _ (grown_trans hHeld hg5) (fun hHeld1 => ?_)
            clear hK K
            try simp only [Go.Act.put, List.setIfInBounds_toArray, List.set_cons_zero, List.set_cons_succ]
            have rmul2 : IntKind.i64.wrap (1000 * ((smpD ss (k + 1)).t - (smpD ss k).t)) = 1000 * dt := by rw [HDT.out]; exact rmul
            refine wpAnyH_take (i := 5) (oi := ?oia5) (v := .int .i64 (1000 * dt)) ?hia5 (by kernel_rfl) (by kernel_rfl) (by kernel_rfl) ?hqa5 ?hya5 hHeld1 ?resta5
            case hia5 => simp only [List.getElem?_toArray, List.getElem?_cons_succ, List.getElem?_cons_zero, Option.some.injEq]; rfl
            case hqa5 => exact fun _ _ _ h => h
            case hya5 =>
              refine Or.inl ⟨by rfl, fun V hV => ?_⟩
              clear hV
              go_simp
            try simp only [Go.Act.put, List.setIfInBounds_toArray, List.set_cons_zero, List.set_cons_succ]
            refine wpAnyH_ready (rs := [7]) (by kernel_rfl) (by simp) ?_
            refine AllReadyH.cons rfl (fun K hK => ?_) AllReadyH.nil
            go_simp
            refine (scale_any (nx - g0) (1000 * dt) lg 2 (by omega) (by omega) (by omega) (by omega) (by omega) (by omega) _).mono ?_
            rintro e w6 ⟨rfl, hg6⟩
            refine hK.out _ _ (grown_trans hHeld1 hg6) (fun hHeld2 => ?_)
            clear hK K
            rw [HBV.out, HSC.out]
            try simp only [Go.Act.put, List.setIfInBounds_toArray, List.set_cons_zero, List.set_cons_succ]
            refine wpAnyH_take (i := 8) (oi := ?oia8) (v := .tuple #[.int .i64 b, .int .i64 0]) ?hia8 (by kernel_rfl) (by kernel_rfl) (by kernel_rfl) ?hqa8 ?hya8 hHeld2 ?resta8
            case hia8 => simp only [List.getElem?_toArray, List.getElem?_cons_succ, List.getElem?_cons_zero, Option.some.injEq]; rfl
            case hqa8 => exact fun _ _ _ h => h
            case hya8 =>
              refine Or.inl ⟨by rfl, fun V hV => ?_⟩
              clear hV
              go_simp
            try simp only [Go.Act.put, List.setIfInBounds_toArray, List.set_cons_zero, List.set_cons_succ]
            refine wpAnyH_take (i := 9) (oi := ?oia9) (v := .int .i64 b) ?hia9 (by kernel_rfl) (by kernel_rfl) (by kernel_rfl) ?hqa9 ?hya9 hHeld2 ?resta9
            case hia9 => simp only [List.getElem?_toArray, List.getElem?_cons_succ, List.getElem?_cons_zero, Option.some.injEq]; rfl
            case hqa9 => exact fun _ _ _ h => h
            case hya9 =>
              refine Or.inl ⟨by rfl, fun V hV => ?_⟩
              clear hV
              go_simp
            try simp only [Go.Act.put, List.setIfInBounds_toArray, List.set_cons_zero, List.set_cons_succ]
            refine wpAnyH_take (i := 10) (oi := ?oia10) (v := .int .i64 0) ?hia10 (by kernel_rfl) (by kernel_rfl) (by kernel_rfl) ?hqa10 ?hya10 hHeld2 ?resta10
            case hia10 => simp only [List.getElem?_toArray, List.getElem?_cons_succ, List.getElem?_cons_zero, Option.some.injEq]; rfl
            case hqa10 => exact fun _ _ _ h => h
            case hya10 =>
              refine Or.inl ⟨by rfl, fun V hV => ?_⟩
              clear hV
              go_simp
            try simp only [Go.Act.put, List.setIfInBounds_toArray, List.set_cons_zero, List.set_cons_succ]
            refine wpAnyH_take (i := 11) (oi := ?oia11) (v := .int .i64 b) ?hia11 (by kernel_rfl) (by kernel_rfl) (by kernel_rfl) ?hqa11 ?hya11 hHeld2 ?resta11
            case hia11 => simp only [List.getElem?_toArray, List.getElem?_cons_succ, List.getElem?_cons_zero, Option.some.injEq]; rfl
            case hqa11 => exact fun _ _ _ h => h
            case hya11 =>
              refine Or.inl ⟨by rfl, fun V hV => ?_⟩
              clear hV
              go_simp
            try simp only [Go.Act.put, List.setIfInBounds_toArray, List.set_cons_zero, List.set_cons_succ]
            refine wpAnyH_take (i := 12) (oi := ?oia12) (v := .int .i64 0) ?hia12 (by kernel_rfl) (by kernel_rfl) (by kernel_rfl) ?hqa12 ?hya12 hHeld2 ?resta12
            case hia12 => simp only [List.getElem?_toArray, List.getElem?_cons_succ, List.getElem?_cons_zero, Option.some.injEq]; rfl
            case hqa12 => exact fun _ _ _ h => h
            case hya12 =>
              refine Or.inl ⟨by rfl, fun V hV => ?_⟩
              clear hV
              go_simp
            try simp only [Go.Act.put, List.setIfInBounds_toArray, List.set_cons_zero, List.set_cons_succ]
            refine wpAnyH_done (by kernel_rfl) ?_ _
            have hgr : wr.grownBy w6 none := grown_trans (grown_drewN _ _ 1) hHeld2
            have HB6 := Lib.hid (hB.out.grown DH.out hgr (fun r e => by cases e))
            have HO6 := Lib.hid (own_cells hO.out hgr (fun r e => by cases e))
            have HX6 : Hid (w6.heap[Bx]? = some (.cells (stepC ss k) 85 (0, 0))) := (hgr.block _ (lt_of_block hX.out) (by simp)).trans hX.out
            have HKO6 : Hid (KeepsOthers W w6) := hKO.out.trans (KeepsOthers.of_grownBy hgr (fun j o e => by cases e))
            have HKP6 : Hid (KpB w.heap.size Bs W w6) := ⟨hKP.out.1.trans ((below_grown hgr).mono hB.out.b.size), (hgr.block _ hB.out.s.lt (by simp)).trans hKP.out.2⟩
            have HMC := Lib.hid (cellI_is hB.out.x)
            clear hB hO hX hKO hKP cN cG cL cY hHeld hHeld1 hHeld2 hg5 hg6 hgr HC hS0
            generalize Value.slice vo m vc = v at *
            have cL := HB6.out.l.cell; have cN := HB6.out.x.cell
            rw [HNX.out] at cN
            have x1 : w6.cell? ⟨Bx, 1, none⟩ = some (.int .i64 (smpD ss k).t) := step_cells HX6.out 1 _ rfl
            have hi := HI0.out; have hz0 := HZ0.out; have hz1 := HZ1.out; have hz2 := HZ2.out
            have HDB := DH.out
            have hb6 : W0.heap.size ≤ w6.heap.size := Nat.le_trans (Nat.le_of_lt_succ (by have := HB6.out.s.lt; have := HSZ.out; omega)) (Nat.le_refl _)
            have HB60 := Lib.hid hb6
            clear hb6
            gi_wp2_with (gi_at_builtin; refine wpListIn_append_own _ rfl _ _ 62 rfl W0.heap.size 67 i0 (.agg #[.int .i64 0, .int .i64 0]) 2 16 Try.underlying62 hi hz0 hz1 hz2 rfl (by decide) v m _ rfl (HO6.out.alloc _) ⟨w6.heap.size, 0, none⟩ 1 1 [.int .i64 nx, .int .i64 (1000 * (smpD ss k).t + b)] rfl rfl (World.news_of_block (cs := #[.int .i64 nx, .int .i64 (1000 * (smpD ss k).t + b)]) (t := 67) (fr := (0, 0)) (heap_alloc_new w6 _)) (by simp [Value.oneCell']) (by unfold maxLen; omega) (by omega) (by have := HB60.out; simp; omega) ?_; intro v' w8 hown' hgrow' _; obtain ⟨g', cap', rfl⟩ := ownsRow_succ hown'; have hrow : ∀ r, v.ownBlock = some r → W0.heap.size ≤ r := fun r e => (HO6.out.lt r e).1; have HB8 := Lib.hid ((HB6.out.grown HDB (World.grownBy_alloc _ _ none) (fun r e => by cases e)).grown HDB hgrow' hrow); have cL8 := HB8.out.l.cell; have fL8 := HB8.out.l.frozen; have HB9 := Lib.hid (HB8.out.setL HDB (.slice (some ⟨g', 0, none⟩) (m + 1) cap')); have cN9 := HB9.out.x.cell; rw [HNX.out] at cN9; have cY9 := HB9.out.y.cell; have fN9 := HB9.out.x.frozen)
            have HO10 : Hid (((w8.setCell ⟨Bl, 0, none⟩ (.slice (some ⟨g', 0, none⟩) (m + 1) cap')).setCell ⟨Bn, 0, none⟩ (.int .i64 (nx + way))).ownsRow W0.heap.size 67 2 (.slice (some ⟨g', 0, none⟩) (m + 1) cap') (m + 1) (xs0 ++ evVs ss way g0 k (nP way g0) (m + 1 - nP way g0))) := by
              obtain ⟨d1, d2, d3, d4, d5, d6, d7⟩ := HDB
              show World.ownsRow _ _ _ _ _ _ _
              rw [HVS.out]
              exact own_box (own_box hown' (by omega) _) (by omega) _
            have HB10 : Hid (SpB w Bl Bg Bn Bs (.slice so ss.length sc) way g0 (nxW way (m + 1)) (.slice (some ⟨g', 0, none⟩) (m + 1) cap') ((w8.setCell ⟨Bl, 0, none⟩ (.slice (some ⟨g', 0, none⟩) (m + 1) cap')).setCell ⟨Bn, 0, none⟩ (.int .i64 (nx + way)))) := by
              show SpB _ _ _ _ _ _ _ _ _ _ _
              rw [hnx2.out]; exact HB9.out.setN HDB _
            have hne : v.ownBlock ≠ some Bx := own_far HO6.out HX6.out (by decide)
            have HX10 : Hid (((w8.setCell ⟨Bl, 0, none⟩ (.slice (some ⟨g', 0, none⟩) (m + 1) cap')).setCell ⟨Bn, 0, none⟩ (.int .i64 (nx + way))).heap[Bx]? = some (.cells (stepC ss k) 85 (0, 0))) := by
              obtain ⟨d1, d2, d3, d4, d5, d6, d7⟩ := HDB
              have hl := lt_of_block HX6.out
              show _ = _
              rw [Below.heap_setCell _ _ _ _ (by show Bx ≠ Bn; omega), Below.heap_setCell _ _ _ _ (by show Bx ≠ Bl; omega), hgrow'.block Bx (by simp; omega) (fun e => hne e.symm), Below.heap_alloc _ _ _ hl]
              exact HX6.out
            have HKO10 : Hid (KeepsOthers W ((w8.setCell ⟨Bl, 0, none⟩ (.slice (some ⟨g', 0, none⟩) (m + 1) cap')).setCell ⟨Bn, 0, none⟩ (.int .i64 (nx + way)))) := by
              refine (((HKO6.out.trans (KeepsOthers.alloc _ _)).trans (KeepsOthers.of_grownBy hgrow' (fun j o e ho => ?_))).trans (KeepsOthers.setCell _ _ _)).trans (KeepsOthers.setCell _ _ _)
              rcases (HO6.out.alloc _).2 with ⟨hv, _⟩ | ⟨g', cap, cur, hv, hb, hgg, _⟩
              · rw [hv] at e; cases e
              · have : g' = j := by rw [hv] at e; simpa [Value.ownBlock] using e
                subst this
                rw [hgg] at ho; cases ho; rfl
            have HKP10 : Hid (KpB w.heap.size Bs W ((w8.setCell ⟨Bl, 0, none⟩ (.slice (some ⟨g', 0, none⟩) (m + 1) cap')).setCell ⟨Bn, 0, none⟩ (.int .i64 (nx + way)))) := by
              obtain ⟨d1, d2, d3, d4, d5, d6, d7⟩ := HDB
              have hl := HB6.out.s.lt
              refine ⟨?_, ?_⟩
              · exact (((HKP6.out.1.alloc (by omega) _).grown hgrow' (by simp; omega) (fun r e => by have := hrow r e; omega)).setCell (by show _ ≤ Bl; omega) _).setCell (by show _ ≤ Bn; omega) _
              · rw [Below.heap_setCell _ _ _ _ (by show Bs ≠ Bn; omega), Below.heap_setCell _ _ _ _ (by show Bs ≠ Bl; omega), hgrow'.block Bs (by simp; omega) (fun e => by have := hrow Bs e.symm; omega), Below.heap_alloc _ _ _ hl]
                exact HKP6.out.2
            have HME : Hid ((g0 + lg + 1 - cellI ((w8.setCell ⟨Bl, 0, none⟩ (.slice (some ⟨g', 0, none⟩) (m + 1) cap')).setCell ⟨Bn, 0, none⟩ (.int .i64 (nx + way))) Bn).toNat < (g0 + lg + 1 - cellI wr Bn).toNat) := by
              show _ < _
              rw [HMC.out, cellI_is HB10.out.x, hnx2.out, HNX.out]; omega
            clear hown' hgrow' hrow cL8 fL8 cN9 cY9 fN9 hne
            gi_wp2
            go_roundw
            case rel => exact ⟨m + 1, (.slice (some ⟨g', 0, none⟩) (m + 1) cap'), by omega, by omega, by omega, HB10.out, HO10.out, HX10.out, HKO10.out, HKP10.out⟩
            case measure => exact HME.out
        · obtain rfl : m = nP way (g0 + lg) := by
            rcases Nat.lt_or_ge m (nP way (g0 + lg)) with q | q
            · exact absurd ((nP_iff w0 (by omega) m).1 q) hle
            · omega
          have fG := hB.out.g.frozen
          have HBE : Hid (SpB w Bl Bg Bn Bs (.slice so ss.length sc) way (g0 + lg) (nxW way (nP way (g0 + lg))) v (wr.setCell ⟨Bg, 0, none⟩ (.int .i64 (g0 + lg)))) := hB.out.setG DH.out _
          have HOE : Hid ((wr.setCell ⟨Bg, 0, none⟩ (.int .i64 (g0 + lg))).ownsRow W0.heap.size 67 2 v (nP way (g0 + lg)) (xs0 ++ evVs ss way g0 k (nP way g0) (nP way (g0 + lg) - nP way g0))) := own_box hO.out (by obtain ⟨_, _, _, _, d5, d6, d7⟩ := DH.out; omega) _
          have HKE : Hid (KeepsOthers W (wr.setCell ⟨Bg, 0, none⟩ (.int .i64 (g0 + lg)))) := hKO.out.trans (KeepsOthers.setCell _ _ _)
          have HKQ : Hid (KpB w.heap.size Bs W (wr.setCell ⟨Bg, 0, none⟩ (.int .i64 (g0 + lg)))) := by
            obtain ⟨d1, d2, d3, d4, d5, d6, d7⟩ := DH.out
            exact ⟨hKP.out.1.setCell (by show _ ≤ Bg; omega) _, (Below.heap_setCell _ _ _ _ (by show Bs ≠ Bg; omega)).trans hKP.out.2⟩
          clear hB hO hX hKO hKP
          gi_wp2
          refine ⟨HKE.out.from _, HKQ.out, v, ?_, ?_, ?_⟩
          · rw [HSN.out]; exact HBE.out
          · rw [HSN.out]; exact HOE.out
          · rw [HSN.out]; exact h2
    case done =>
      rintro D ys W hD hS ⟨v, hB, hO, hn⟩ hK
      rw [sP_done HP.out w0 (ss.length - 1) ys hS] at hB hO hn
      simp only at hB hO hn
      have HE : Hid ((cntN ss way (ss.length - 1), (0 : Int)) = splitsE ⟨nm, sp, st, so, sc, ss, lo, lc, ls, to_, tc, ts⟩ way) := by
        show _ = _
        unfold splitsE
        rw [if_pos HCE.out, if_pos ⟨w0, w1⟩, if_pos (show cntN ss way (ss.length - 1) ≤ 10000 from hn)]
      have e2 : nP way (wayN ss (ss.length - 1)) = cntN ss way (ss.length - 1) := rfl
      rw [e2] at hO
      obtain ⟨vo, vc, rfl⟩ := own_slice hO
      have cL := hB.l.cell
      have d4 := hB.r4.cell; have f4 := hB.r4.frozen
      have d5 := (hB.r5.other (B' := w.heap.size + 2) (by omega) (.slice vo (cntN ss way (ss.length - 1)) vc)).cell
      have f5 := (hB.r5.other (B' := w.heap.size + 2) (by omega) (.slice vo (cntN ss way (ss.length - 1)) vc)).frozen
      have r4 : Boxed ((W.setCell ⟨w.heap.size + 2, 0, none⟩ (.slice vo (cntN ss way (ss.length - 1)) vc)).setCell ⟨w.heap.size + 3, 0, none⟩ (.int .i64 0)) (w.heap.size + 2) 62 (.slice vo (cntN ss way (ss.length - 1)) vc) := (hB.r4.set _).other (by omega) _
      have r5 : Boxed ((W.setCell ⟨w.heap.size + 2, 0, none⟩ (.slice vo (cntN ss way (ss.length - 1)) vc)).setCell ⟨w.heap.size + 3, 0, none⟩ (.int .i64 0)) (w.heap.size + 3) 29 (.int .i64 0) := (hB.r5.other (by omega) _).set _
      have HG : Below w.heap.size w ((W.setCell ⟨w.heap.size + 2, 0, none⟩ (.slice vo (cntN ss way (ss.length - 1)) vc)).setCell ⟨w.heap.size + 3, 0, none⟩ (.int .i64 0)) := (hB.b.setCell (by show _ ≤ w.heap.size + 2; omega) _).setCell (by show _ ≤ w.heap.size + 3; omega) _
      have HOB : ((W.setCell ⟨w.heap.size + 2, 0, none⟩ (.slice vo (cntN ss way (ss.length - 1)) vc)).setCell ⟨w.heap.size + 3, 0, none⟩ (.int .i64 0)).ownsRow w.heap.size 67 2 (.slice vo (cntN ss way (ss.length - 1)) vc) (cntN ss way (ss.length - 1)) (splVs ss way (cntN ss way (ss.length - 1))) := by
        obtain ⟨d1, d2, d3, d4, d5, d6, d7⟩ := DH.out
        have q := own_box (own_box hO (B := w.heap.size + 2) (by omega) (.slice vo (cntN ss way (ss.length - 1)) vc)) (B := w.heap.size + 3) (by omega) (.int .i64 0)
        exact ⟨q.1, q.2.imp id fun ⟨g, cap, cur, h1, h2, h3⟩ => ⟨g, cap, cur, h1, Nat.le_trans hn0s h2, h3⟩⟩
      have hKD : ((W.setCell ⟨w.heap.size + 2, 0, none⟩ (.slice vo (cntN ss way (ss.length - 1)) vc)).setCell ⟨w.heap.size + 3, 0, none⟩ (.int .i64 0)).heap[D]? = some (.deferred (some [])) := by
        obtain ⟨d1, d2, d3, d4, d5, d6, d7⟩ := DH.out
        rw [Below.heap_setCell _ _ _ _ (by show D ≠ w.heap.size + 3; omega), Below.heap_setCell _ _ _ _ (by show D ≠ w.heap.size + 2; omega)]; exact hK
      have DD : w.heap.size + 3 < D := by obtain ⟨d1, d2, d3, d4, d5, d6, d7⟩ := DH.out; omega
      have R4 := Lib.hid r4; have R5 := Lib.hid r5; have HGH := Lib.hid HG; have HOBH := Lib.hid HOB; have HKD := Lib.hid hKD
      clear hB hO hS hn hK e2 r4 r5 HG HOB hKD hsz0
      gi_wp2
      obtain ⟨W1, hW1⟩ : ∃ W1, ((W.setCell ⟨w.heap.size + 2, 0, none⟩ (.slice vo (cntN ss way (ss.length - 1)) vc)).setCell ⟨w.heap.size + 3, 0, none⟩ (.int .i64 0)) = W1 := ⟨_, rfl⟩
      have r4 := R4.out; have r5 := R5.out; have hg := HGH.out; have ho := HOBH.out; have hkd := HKD.out
      rw [hW1] at r4 r5 hg ho hkd
      try rw [hW1]
      refine ⟨by simp, .inl ⟨_, _, rfl, run_takeDeferred hkd, ?_⟩⟩
      have z4 : ∀ o, (W1.putObj D o).cell? ⟨w.heap.size + 2, 0, none⟩ = some (.slice vo (cntN ss way (ss.length - 1)) vc) := fun o => by
        have : (W1.putObj D o).heap[w.heap.size + 2]? = _ := (World.putObj_heap_other (by omega)).trans r4
        simp [World.cell?, this]
      have z5 : ∀ o, (W1.putObj D o).cell? ⟨w.heap.size + 3, 0, none⟩ = some (.int .i64 0) := fun o => by
        have : (W1.putObj D o).heap[w.heap.size + 3]? = _ := (World.putObj_heap_other (by omega)).trans r5
        simp [World.cell?, this]
      refine ⟨.tuple #[.slice vo (cntN ss way (ss.length - 1)) vc, .int .i64 0], ?_, ⟨⟨_, 0, rfl, _, HE.out, ownsRow_putObj ho _ hkd rfl⟩, grown_below (hg.trans (belowK_b (w := w) (Nat.le_refl _) W1 D _ _ (by omega) hkd rfl rfl))⟩⟩
      simp [results, Try.results49, go_sem, z4, z5]
    case stop =>
      rintro D c pre W hD ⟨k, hkl, hpre⟩ ⟨rfl, h1, r4, r5, hg⟩ hkd
      rw [sP_done HP.out w0 k pre hpre] at h1
      simp only at h1
      have HE : Hid ((0, (3 : Int)) = splitsE ⟨nm, sp, st, so, sc, ss, lo, lc, ls, to_, tc, ts⟩ way) := by
        have hm := cnt_mono HP.out w0 (a := k) (b := ss.length - 1) (by omega)
        have e2 : nP way (wayN ss k) = cntN ss way k := rfl
        show _ = _
        unfold splitsE
        rw [if_pos HCE.out, if_pos ⟨w0, w1⟩, if_neg (by show ¬ cntN ss way (ss.length - 1) ≤ 10000; omega)]
      have DD : w.heap.size + 3 < D := by obtain ⟨d1, d2, d3, d4, d5, d6, d7⟩ := DH.out; omega
      have R4 := Lib.hid r4; have R5 := Lib.hid r5; have HGH := Lib.hid hg; have HKD := Lib.hid hkd
      clear r4 r5 hg hkd h1 hpre hsz0
      gi_wp2
      refine ⟨by simp, .inl ⟨_, _, rfl, run_takeDeferred HKD.out, ?_⟩⟩
      have z4 : ∀ o, (W.putObj D o).cell? ⟨w.heap.size + 2, 0, none⟩ = some (.slice none 0 0) := fun o => by
        have : (W.putObj D o).heap[w.heap.size + 2]? = _ := (World.putObj_heap_other (by omega)).trans R4.out
        simp [World.cell?, this]
      have z5 : ∀ o, (W.putObj D o).cell? ⟨w.heap.size + 3, 0, none⟩ = some (.int .i64 3) := fun o => by
        have : (W.putObj D o).heap[w.heap.size + 3]? = _ := (World.putObj_heap_other (by omega)).trans R5.out
        simp [World.cell?, this]
      refine ⟨.tuple #[.slice none 0 0, .int .i64 3], ?_, ⟨⟨_, 3, rfl, 0, HE.out, World.ownsRow_nil _ _ _ _⟩, grown_below (HGH.out.trans (belowK_b (w := w) (Nat.le_refl _) W D _ _ (by omega) HKD.out rfl rfl))⟩⟩
      simp [results, Try.results49, go_sem, z4, z5]
  have hS0 : (w2.alloc (.cells #[.slice none 0 0] 62)).drew.grownBy (w2.alloc (.cells #[.slice none 0 0] 62)).drew none := World.grownBy.refl _ _
  have y3 : (w2.alloc (.cells #[.slice none 0 0] 62)).drew.cell? ⟨w.heap.size + 1, 0, none⟩ = some (.int .i64 way) := y2
  refine region_in_wide (S := fun V => (w2.alloc (.cells #[.slice none 0 0] 62)).drew.grownBy V none) hmx (by kernel_rfl) (by rintro ⟨a, w', h⟩; obtain ⟨⟨v, E, n, h1, _⟩, _⟩ := h; cases h1) hS0 (fun hHeld => ?_)
  refine wpAnyH_take (i := 0) (oi := ?oi0) (v := .int .i64 way) ?hi0 (by kernel_rfl) (by kernel_rfl) (by kernel_rfl) ?hq0 ?hy0 hHeld ?rest0
  case hi0 => simp only [List.getElem?_toArray, List.getElem?_cons_succ, List.getElem?_cons_zero, Option.some.injEq]; rfl
  case hq0 => exact fun _ _ _ h => h
  case hy0 =>
    refine Or.inl ⟨by rfl, fun V hV => ?_⟩
    have q1 := grown_cell hV y3; clear hV
    go_simp
  try simp only [Go.Act.put, List.setIfInBounds_toArray, List.set_cons_zero, List.set_cons_succ]
  refine wpAnyH_ready (rs := [1, 2]) (by kernel_rfl) (by simp) ?_
  refine AllReadyH.cons rfl (fun K hK => ?_) (AllReadyH.cons rfl (fun K hK => ?_) AllReadyH.nil)
  · go_simp
    refine hK.out _ _ ?_ (fun hHeld1 => ?_)
    · exact grown_trans hS0 (World.grownBy_alloc _ _ _)
    clear hK K
    try simp only [Go.Act.put, List.setIfInBounds_toArray, List.set_cons_zero, List.set_cons_succ]
    refine wpAnyH_ready (rs := [2]) (by kernel_rfl) (by simp) ?_
    refine AllReadyH.cons rfl (fun K hK => ?_) AllReadyH.nil
    go_simp
    refine hK.out _ _ ?_ (fun hHeld2 => ?_)
    · exact grown_trans hHeld1 (World.grownBy_alloc _ _ _)
    clear hK K
    try simp only [Go.Act.put, List.setIfInBounds_toArray, List.set_cons_zero, List.set_cons_succ]
    refine wpAnyH_ready (rs := [3]) (by kernel_rfl) (by simp) ?_
    refine AllReadyH.cons rfl (fun K hK => ?_) AllReadyH.nil
    go_simp
    refine hK.out _ _ ?_ (fun hHeld3 => ?_)
    · exact grown_trans (World.grownBy_alloc (w2.alloc (.cells #[.slice none 0 0] 62)).drew _ none) (World.grownBy_alloc _ _ none)
    clear hK K
    try simp only [Go.Act.put, List.setIfInBounds_toArray, List.set_cons_zero, List.set_cons_succ]
    refine wpAnyH_ready (rs := [4]) (by kernel_rfl) (by simp) ?_
    refine AllReadyH.cons rfl (fun K hK => ?_) AllReadyH.nil
    go_simp
    refine hK.out _ _ ?_ (fun hHeld4 => ?_)
    · exact grown_trans (World.grownBy_alloc (w2.alloc (.cells #[.slice none 0 0] 62)).drew _ none) (World.grownBy_alloc _ _ none)
    clear hK K
    try simp only [Go.Act.put, List.setIfInBounds_toArray, List.set_cons_zero, List.set_cons_succ]
    refine wpAnyH_done (by kernel_rfl) ?_ _
    refine NoPanic.normal ?_
    rw [hBl] at REST
    exact REST _ _ _ (Lib.hid HL.out.1)
  · go_simp
    refine hK.out _ _ ?_ (fun hHeld1 => ?_)
    · exact grown_trans hS0 (World.grownBy_alloc _ _ _)
    clear hK K
    try simp only [Go.Act.put, List.setIfInBounds_toArray, List.set_cons_zero, List.set_cons_succ]
    refine wpAnyH_ready (rs := [1]) (by kernel_rfl) (by simp) ?_
    refine AllReadyH.cons rfl (fun K hK => ?_) AllReadyH.nil
    go_simp
    refine hK.out _ _ ?_ (fun hHeld2 => ?_)
    · exact grown_trans hHeld1 (World.grownBy_alloc _ _ _)
    clear hK K
    try simp only [Go.Act.put, List.setIfInBounds_toArray, List.set_cons_zero, List.set_cons_succ]
    refine wpAnyH_ready (rs := [3]) (by kernel_rfl) (by simp) ?_
    refine AllReadyH.cons rfl (fun K hK => ?_) AllReadyH.nil
    go_simp
    refine hK.out _ _ ?_ (fun hHeld3 => ?_)
    · exact grown_trans (World.grownBy_alloc (w2.alloc (.cells #[.slice none 0 0] 62)).drew _ none) (World.grownBy_alloc _ _ none)
    clear hK K
    try simp only [Go.Act.put, List.setIfInBounds_toArray, List.set_cons_zero, List.set_cons_succ]
    refine wpAnyH_ready (rs := [4]) (by kernel_rfl) (by simp) ?_
    refine AllReadyH.cons rfl (fun K hK => ?_) AllReadyH.nil
    go_simp
    refine hK.out _ _ ?_ (fun hHeld4 => ?_)
    · exact grown_trans (World.grownBy_alloc (w2.alloc (.cells #[.slice none 0 0] 62)).drew _ none) (World.grownBy_alloc _ _ none)
    clear hK K
    try simp only [Go.Act.put, List.setIfInBounds_toArray, List.set_cons_zero, List.set_cons_succ]
    refine wpAnyH_done (by kernel_rfl) ?_ _
    refine NoPanic.normal ?_
    rw [hBl] at REST
    exact REST _ _ _ (Lib.hid HL.out.2)
end Go.Proofs.Ytgkhhfojioepgaa
