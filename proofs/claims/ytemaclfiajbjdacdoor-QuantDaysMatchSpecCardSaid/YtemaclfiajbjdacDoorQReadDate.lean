/- The contract of ReadDate. -/
import Derived.Test.YtemaclfiajbjdacDoorQDateForm
import Derived.Test.YtemaclfiajbjdacDoorQForms
import Derived.Test.YtemaclfiajbjdacDoorQDate
namespace Go.Proofs.YtemaclfiajbjdacDoor
open Go.RowKit

theorem Quad.grown {w w' : World} {r : Nat} {x0 x1 x2 x3 : Int} (h : Quad w r x0 x1 x2 x3) (g : w.grownBy w' none) : Quad w' r x0 x1 x2 x3 := by
  have h' : w.heap[r]? = _ := h
  show w'.heap[r]? = _
  rw [g.block r (lt_of_block h') (by simp)]; exact h
theorem Quad.far {w : World} {r : Nat} {x0 x1 x2 x3 : Int} (h : Quad w r x0 x1 x2 x3) {g : Nat} (ne : r ≠ g) (i : Nat) (v : Value) : Quad (w.setCell ⟨g, i, none⟩ v) r x0 x1 x2 x3 := by
  show (w.setCell _ _).heap[r]? = _
  rw [Below.heap_setCell _ _ _ _ ne]; exact h
def fill4 (w : World) (r : Nat) (y0 y1 y2 y3 : Int) : World := (((w.setCell ⟨r, 0, none⟩ (.int .i64 y0)).setCell ⟨r, 1, none⟩ (.int .i64 y1)).setCell ⟨r, 2, none⟩ (.int .i64 y2)).setCell ⟨r, 3, none⟩ (.int .i64 y3)
theorem Quad.fill {w : World} {r : Nat} {x0 x1 x2 x3 : Int} (h : Quad w r x0 x1 x2 x3) (y0 y1 y2 y3 : Int) : Quad (fill4 w r y0 y1 y2 y3) r y0 y1 y2 y3 := (((h.s0 y0).s1 y1).s2 y2).s3 y3
theorem Quad.away {w : World} {r : Nat} {x0 x1 x2 x3 : Int} (h : Quad w r x0 x1 x2 x3) {g : Nat} (ne : r ≠ g) (y0 y1 y2 y3 : Int) : Quad (fill4 w g y0 y1 y2 y3) r x0 x1 x2 x3 := (((h.far ne 0 _).far ne 1 _).far ne 2 _).far ne 3 _
theorem grow_i {w0 w : World} {g : Nat} (h : w0.grownBy w none) (hb : w0.heap.size ≤ g) (k : Nat) (v : Value) : w0.grownBy (w.setCell ⟨g, k, none⟩ v) none :=
  ⟨h.os, h.tape, h.output, by have := h.size; simpa [World.setCell] using this, fun i hi _ => by rw [Below.heap_setCell _ _ _ _ (by show i ≠ g; omega)]; exact h.block i hi (by simp)⟩
theorem grow4 {w0 w : World} {g : Nat} (h : w0.grownBy w none) (hb : w0.heap.size ≤ g) (y0 y1 y2 y3 : Int) : w0.grownBy (fill4 w g y0 y1 y2 y3) none :=
  grow_i (grow_i (grow_i (grow_i h hb _ _) hb _ _) hb _ _) hb _ _
theorem At.set {w : World} {a b : Nat} {s : ByteArray} {k : Nat} (h : At w a b s k) {g : Nat} (ha : a ≠ g) (hb : b ≠ g) (i : Nat) (v : Value) : At (w.setCell ⟨g, i, none⟩ v) a b s k :=
  ⟨by rw [Below.heap_setCell _ _ _ _ ha]; exact h.hA, by rw [Below.heap_setCell _ _ _ _ hb]; exact h.hB, h.sz, h.le⟩
theorem At.fill {w : World} {a b : Nat} {s : ByteArray} {k : Nat} (h : At w a b s k) {g : Nat} (ha : a ≠ g) (hb : b ≠ g) (y0 y1 y2 y3 : Int) : At (fill4 w g y0 y1 y2 y3) a b s k := (((h.set ha hb 0 _).set ha hb 1 _).set ha hb 2 _).set ha hb 3 _

/-- What is read of a date: year, month, date, the place, the error. -/
structure DateRead where
  y : Int
  m : Int
  d : Int
  at_ : Int
  e : Int
def dateRead (L : List Nat) : DateRead :=
  if (1000 : Int) < (L.length : Int) then ⟨0, 0, 0, 0, 3⟩
  else if (dateFV L).ok = true ∧ (dateFV L).used = L.length then ⟨(dateFV L).y, (dateFV L).m, (dateFV L).d, 0, 0⟩
  else ⟨0, 0, 0, ((dateFV L).used : Int), 6⟩

theorem read_results {w : World} {r : Nat} {x0 x1 x2 x3 : Int} (h : Quad w r x0 x1 x2 x3) (fn : Func) (tmps : Array Value) (A B : Value) (hr : fn.results = Tryd.f40.results) (h2 : tmps[6]?.getD undef = .pointer (some ⟨r, 0, none⟩)) (h3 : tmps[7]?.getD undef = A) (h4 : tmps[8]?.getD undef = B) :
    (results fn tmps).run Tryd.prog w = .ok (.tuple #[.agg #[.int .i64 x0, .int .i64 x1, .int .i64 x2, .int .i64 x3], A, B]) w := by
  have q0 := h.c0
  have q1 := h.c1
  have q2 := h.c2
  have q3 := h.c3
  unfold results
  rw [hr, Tryd.results40]
  simp [go_sem, h2, h3, h4, q0, q1, q2, q3]

theorem zero_is {u : Nat} (h : ¬ 0 < u) : Value.int .i64 0 = Value.int .i64 (u : Int) := by rw [show u = 0 by omega]; rfl

set_option maxHeartbeats 1600000 in
theorem readDate_form (s : ByteArray) (hs : s.size ≤ 140737488351232) (p C : Nat) (w : World) (hp : w.cell? ⟨p, 0, none⟩ = some (.func (.func 41) #[] #[])) :
    Calls Tryd.prog 40 #[.string s, .int .i64 1000, .slice (some ⟨p, 0, none⟩) 1 C] w fun e w' => e = .returned (.tuple #[.agg #[.int .i64 (dateRead (rem s 0)).y, .int .i64 (dateRead (rem s 0)).m, .int .i64 (dateRead (rem s 0)).d, .int .i64 0], .int .i64 (dateRead (rem s 0)).at_, .int .i64 (dateRead (rem s 0)).e]) ∧ w.grownBy w' none := by
  obtain ⟨R, hR⟩ : ∃ R, dateRead (rem s 0) = R := ⟨_, rfl⟩
  have hq6 : Quad ((w.alloc (.cells #[.int .i64 0, .int .i64 0, .int .i64 0, .int .i64 0] 44)).alloc (.cells #[.int .i64 0, .int .i64 0, .int .i64 0, .int .i64 0] 44)) w.heap.size 0 0 0 0 := (show Quad (w.alloc _) w.heap.size 0 0 0 0 from heap_alloc_new w _).grown (World.grownBy_alloc _ _ _)
  have hq9 : Quad ((w.alloc (.cells #[.int .i64 0, .int .i64 0, .int .i64 0, .int .i64 0] 44)).alloc (.cells #[.int .i64 0, .int .i64 0, .int .i64 0, .int .i64 0] 44)) (w.heap.size + 1) 0 0 0 0 := by
    have e : (w.alloc (.cells #[.int .i64 0, .int .i64 0, .int .i64 0, .int .i64 0] 44)).heap.size = w.heap.size + 1 := by simp
    show (World.alloc _ _).heap[w.heap.size + 1]? = _
    rw [← e]; exact heap_alloc_new _ _
  have hg0 : w.grownBy ((w.alloc (.cells #[.int .i64 0, .int .i64 0, .int .i64 0, .int .i64 0] 44)).alloc (.cells #[.int .i64 0, .int .i64 0, .int .i64 0, .int .i64 0] 44)) none := grown_trans (World.grownBy_alloc _ _ _) (World.grownBy_alloc _ _ _)
  rw [hR]
  by_cases hbig : (1000 : Int) < (s.size : Int)
  · have hv : R = ⟨0, 0, 0, 0, 3⟩ := by rw [← hR]; unfold dateRead; rw [rem_zero_len, if_pos hbig]
    have HV := Lib.hid hv; clear hv hR
    have c0 := hq6.c0; have c1 := hq6.c1; have c2 := hq6.c2; have c3 := hq6.c3; have cf := hq6.free
    have d0 := hq9.c0; have d1 := hq9.c1; have d2 := hq9.c2; have d3 := hq9.c3
    have HQ := Lib.hid hq6; have HG := Lib.hid hg0; clear hq6 hq9 hg0
    go_enter Tryd.func40, Tryd.ntmps40
    go_wp2_with fail
    exact bodyPost_ret (read_results HQ.out _ _ (.int .i64 0) (.int .i64 3) rfl rfl rfl rfl) rfl ⟨by rw [HV.out], HG.out⟩
  · have hv : R = if (dateFV (rem s 0)).ok = true ∧ (dateFV (rem s 0)).used = s.size then ⟨(dateFV (rem s 0)).y, (dateFV (rem s 0)).m, (dateFV (rem s 0)).d, 0, 0⟩ else ⟨0, 0, 0, ((dateFV (rem s 0)).used : Int), 6⟩ := by rw [← hR]; unfold dateRead; rw [rem_zero_len, if_neg hbig]
    have HV := Lib.hid hv; have HQ6 := Lib.hid hq6; have HQ9 := Lib.hid hq9; clear hv hR hq6 hq9
    have hcp := hg0.cell hp (by simp)
    clear hp
    obtain ⟨D, hD⟩ : ∃ D, dateFV (rem s 0) = D := ⟨_, rfl⟩
    rw [hD] at HV
    have HDD := Lib.hid hD; clear hD
    go_enter Tryd.func40, Tryd.ntmps40
    go_wp2_with fail
    go_loopw [10, 24] (fun fv iv wr => (iv = .int .i64 0 ∧ fv = .int .i64 0 ∨ iv = .int .i64 1 ∧ fv = .int .i64 (D.used : Int) ∧ ¬ (D.ok = true ∧ D.used = s.size)) ∧ Quad wr w.heap.size 0 0 0 0 ∧ Quad wr (w.heap.size + 1) 0 0 0 0 ∧ wr.cell? ⟨p, 0, none⟩ = some (.func (.func 41) #[] #[]) ∧ w.grownBy wr none) (fun _ iv _ => 1 - (intOf iv).toNat)
    case atStart => exact ⟨.inl ⟨rfl, rfl⟩, HQ6.out, HQ9.out, hcp, hg0⟩
    case round =>
      obtain ⟨hj, h6, h9, hpc, hg⟩ := hrel
      clear hcp hg0
      rcases hj with ⟨rfl, rfl⟩ | ⟨rfl, rfl, hno⟩
      · go_wp2_with fail
        refine (open_any s wr).mono ?_; rintro e w1 ⟨rfl, rfl⟩
        have hat := opened s wr hs
        have hga : wr.grownBy ((wr.alloc (.cells #[.string s] 9)).alloc (.cells #[.int .i64 0] 3)) none := grown_trans (World.grownBy_alloc _ _ _) (World.grownBy_alloc _ _ _)
        have hsz : w.heap.size + 1 < wr.heap.size := h9.lt
        have h6a := h6.grown hga
        have HAT := Lib.hid hat; have HGA := Lib.hid hga; clear hat hga
        go_wp2_with fail
        have q := dateForm_any HAT.out
        rw [HDD.out] at q
        refine q.mono ?_; rintro e w2 ⟨rfl, hm⟩
        clear q
        have h6b : Quad w2 w.heap.size 0 0 0 0 := hm.block h6a (by omega)
        have hgw : w.grownBy w2 none := hm.none (grown_trans hg HGA.out) (by omega)
        obtain ⟨y, m, d, ok, u⟩ := D
        have hm := hm.eq (Nat.zero_add u)
        have ht := ((hm.pos).grown (World.grownBy_alloc w2 (.cells #[.int .i64 y, .int .i64 m, .int .i64 d, .int .i64 0] 44) none)).pos
        have hA := World.grownBy_alloc w2 (.cells #[.int .i64 y, .int .i64 m, .int .i64 d, .int .i64 0] 44) none
        have h9b : Quad w2 (w.heap.size + 1) 0 0 0 0 := hm.block (h9.grown HGA.out) (by omega)
        have hpc2 : w2.cell? ⟨p, 0, none⟩ = some (.func (.func 41) #[] #[]) := by
          have e := HGA.out.cell hpc (by simp)
          have hlt : p < wr.heap.size := by
            rcases Nat.lt_or_ge p wr.heap.size with z | z
            · exact z
            · simp [World.cell?, Array.getElem?_eq_none z] at hpc
          exact hm.g.cell e (by simp; omega)
        have h6c := h6b.grown hA
        have h9c := h9b.grown hA
        have hpc3 := hA.cell hpc2 (by simp)
        have hgc := grown_trans hgw hA
        have hux := hm.pos.le
        have H6 := Lib.hid h6c; have H9 := Lib.hid h9c; have HPC := Lib.hid hpc3; have HGC := Lib.hid hgc
        have k0 := h6c.c0; have k1 := h6c.c1; have k2 := h6c.c2; have k3 := h6c.c3; have kf := h6c.free
        have hv' := HV.out
        simp only at hv'
        clear h6b h9b hpc2 h6c h9c hpc3 hgc hm h6 h9 hpc hg h6a hA hgw HV
        by_cases hfull : ok = true ∧ u = s.size
        · obtain ⟨rfl, hus⟩ := hfull
          rw [if_pos ⟨rfl, hus⟩] at hv'
          have HV2 := Lib.hid hv'; clear hv'
          have hq : ((u : Int) == (s.size : Int)) = true := by simp [hus]
          clear hus
          go_wp2_with fail
          refine (place_any ht).mono ?_; rintro e w3 ⟨rfl, rfl⟩
          go_wp2_with fail
          trace_state
          exact bodyPost_ret (read_results (H6.out.fill y m d 0) _ _ (.int .i64 0) (.int .i64 0) rfl rfl rfl rfl) rfl ⟨by rw [HV2.out], grow4 HGC.out (Nat.le_refl _) y m d 0⟩
        · have hno := hfull
          rw [if_neg hfull] at hv'
          have HV2 := Lib.hid hv'; have HNO := Lib.hid hno; clear hv' hno
          have hq : ok = true → ((u : Int) == (s.size : Int)) = false := fun h => by simp; intro e; exact hfull ⟨h, by omega⟩
          clear hfull
          have hmax : max (0 : Int) (u : Int) = (u : Int) := by omega
          cases ok with
          | true =>
            have hq1 := hq rfl
            clear hq
            by_cases hu0 : 0 < u
            · go_wp2_with (go_at_call 83; refine (place_any ht).mono ?_; rintro e w3 ⟨rfl, rfl⟩)
              go_roundw
              case rel => exact ⟨.inr ⟨rfl, by first | rfl | rw [hmax], HNO.out⟩, H6.out, H9.out, HPC.out, HGC.out⟩
              case measure => simp [intOf]
            · go_wp2_with (go_at_call 83; refine (place_any ht).mono ?_; rintro e w3 ⟨rfl, rfl⟩)
              go_roundw
              case rel => exact ⟨.inr ⟨rfl, by first | rfl | exact zero_is hu0, HNO.out⟩, H6.out, H9.out, HPC.out, HGC.out⟩
              case measure => simp [intOf]
          | false =>
            clear hq
            by_cases hu0 : 0 < u
            · go_wp2_with (go_at_call 83; refine (place_any ht).mono ?_; rintro e w3 ⟨rfl, rfl⟩)
              go_roundw
              case rel => exact ⟨.inr ⟨rfl, by first | rfl | rw [hmax], HNO.out⟩, H6.out, H9.out, HPC.out, HGC.out⟩
              case measure => simp [intOf]
            · go_wp2_with (go_at_call 83; refine (place_any ht).mono ?_; rintro e w3 ⟨rfl, rfl⟩)
              go_roundw
              case rel => exact ⟨.inr ⟨rfl, by first | rfl | exact zero_is hu0, HNO.out⟩, H6.out, H9.out, HPC.out, HGC.out⟩
              case measure => simp [intOf]
      · have hv' := HV.out
        rw [if_neg hno] at hv'
        have HV2 := Lib.hid hv'
        have k0 := h6.c0; have k1 := h6.c1; have k2 := h6.c2; have k3 := h6.c3; have kf := h6.free
        have d0 := h9.c0; have d1 := h9.c1; have d2 := h9.c2; have d3 := h9.c3
        have H6 := Lib.hid h6; clear hv' hno HV h6 h9
        go_wp2_with fail
        first
          | exact bodyPost_ret (read_results H6.out _ _ (.int .i64 D.used) (.int .i64 6) rfl rfl rfl rfl) rfl ⟨by rw [HV2.out], hg⟩
          | exact bodyPost_ret (read_results (H6.out.fill 0 0 0 0) _ _ (.int .i64 D.used) (.int .i64 6) rfl rfl rfl rfl) rfl ⟨by rw [HV2.out], grow4 hg (Nat.le_refl _) 0 0 0 0⟩
end Go.Proofs.YtemaclfiajbjdacDoor
