/- The contract of the form of a date. -/
import Derived.Test.YtemaclfiajbjdacDoorQDigits
namespace Go.Proofs.YtemaclfiajbjdacDoor
open Go.RowKit

/-- A block of four numbers. -/
def Quad (w : World) (r : Nat) (x0 x1 x2 x3 : Int) : Prop := w.heap[r]? = some (.cells #[.int .i64 x0, .int .i64 x1, .int .i64 x2, .int .i64 x3] 44 (0, 0))

theorem Quad.lt {w : World} {r : Nat} {x0 x1 x2 x3 : Int} (h : Quad w r x0 x1 x2 x3) : r < w.heap.size := lt_of_block h
theorem Quad.c0 {w : World} {r : Nat} {x0 x1 x2 x3 : Int} (h : Quad w r x0 x1 x2 x3) : w.cell? ⟨r, 0, none⟩ = some (.int .i64 x0) := by
  have h' : w.heap[r]? = _ := h
  simp [World.cell?, h']
theorem Quad.c1 {w : World} {r : Nat} {x0 x1 x2 x3 : Int} (h : Quad w r x0 x1 x2 x3) : w.cell? ⟨r, 1, none⟩ = some (.int .i64 x1) := by
  have h' : w.heap[r]? = _ := h
  simp [World.cell?, h']
theorem Quad.c2 {w : World} {r : Nat} {x0 x1 x2 x3 : Int} (h : Quad w r x0 x1 x2 x3) : w.cell? ⟨r, 2, none⟩ = some (.int .i64 x2) := by
  have h' : w.heap[r]? = _ := h
  simp [World.cell?, h']
theorem Quad.c3 {w : World} {r : Nat} {x0 x1 x2 x3 : Int} (h : Quad w r x0 x1 x2 x3) : w.cell? ⟨r, 3, none⟩ = some (.int .i64 x3) := by
  have h' : w.heap[r]? = _ := h
  simp [World.cell?, h']
theorem Quad.free {w : World} {r : Nat} {x0 x1 x2 x3 : Int} (h : Quad w r x0 x1 x2 x3) (i : Nat) : w.frozen? ⟨r, i, none⟩ = false := by
  have h' : w.heap[r]? = _ := h
  simp [World.frozen?, h']
theorem Quad.s0 {w : World} {r : Nat} {x0 x1 x2 x3 : Int} (h : Quad w r x0 x1 x2 x3) (v : Int) : Quad (w.setCell ⟨r, 0, none⟩ (.int .i64 v)) r v x1 x2 x3 := by
  have h' : w.heap[r]? = _ := h
  show (w.setCell _ _).heap[r]? = _
  simp [World.setCell, Array.getElem?_modify, h']
theorem Quad.s1 {w : World} {r : Nat} {x0 x1 x2 x3 : Int} (h : Quad w r x0 x1 x2 x3) (v : Int) : Quad (w.setCell ⟨r, 1, none⟩ (.int .i64 v)) r x0 v x2 x3 := by
  have h' : w.heap[r]? = _ := h
  show (w.setCell _ _).heap[r]? = _
  simp [World.setCell, Array.getElem?_modify, h']
theorem Quad.s2 {w : World} {r : Nat} {x0 x1 x2 x3 : Int} (h : Quad w r x0 x1 x2 x3) (v : Int) : Quad (w.setCell ⟨r, 2, none⟩ (.int .i64 v)) r x0 x1 v x3 := by
  have h' : w.heap[r]? = _ := h
  show (w.setCell _ _).heap[r]? = _
  simp [World.setCell, Array.getElem?_modify, h']

theorem Quad.s3 {w : World} {r : Nat} {x0 x1 x2 x3 : Int} (h : Quad w r x0 x1 x2 x3) (v : Int) : Quad (w.setCell ⟨r, 3, none⟩ (.int .i64 v)) r x0 x1 x2 v := by
  have h' : w.heap[r]? = _ := h
  show (w.setCell _ _).heap[r]? = _
  simp [World.setCell, Array.getElem?_modify, h']

/-- On the way through the form: the place, the growth since the call began, the four numbers. -/
structure Form (w w1 : World) (a b : Nat) (s : ByteArray) (k r : Nat) (x0 x1 x2 x3 : Int) : Prop where
  pos : At w1 a b s k
  g : w.grownBy w1 (some a)
  q : Quad w1 r x0 x1 x2 x3
  hr : w.heap.size ≤ r
  hab : a < w.heap.size ∧ b < w.heap.size
section
variable {w w1 w2 : World} {a b : Nat} {s : ByteArray} {k k2 r : Nat} {x0 x1 x2 x3 : Int}
theorem Form.start (h : At w a b s k) : Form w (w.alloc (.cells #[.int .i64 0, .int .i64 0, .int .i64 0, .int .i64 0] 44)) a b s k w.heap.size 0 0 0 0 :=
  ⟨(h.grown (World.grownBy_alloc _ _ _)).pos, World.grownBy_alloc _ _ _, heap_alloc_new w _, Nat.le_refl _, h.lt.1, h.lt.2.1⟩
theorem Form.step (h : Form w w1 a b s k r x0 x1 x2 x3) (hm : Moved w1 w2 a b s k2) : Form w w2 a b s k2 r x0 x1 x2 x3 :=
  ⟨hm.pos, grown_trans h.g hm.g, hm.block h.q (by have := h.hr; have := h.hab; omega), h.hr, h.hab⟩
theorem Form.far (h : Form w w1 a b s k r x0 x1 x2 x3) (i : Nat) (v : Value) : At (w1.setCell ⟨r, i, none⟩ v) a b s k ∧ w.grownBy (w1.setCell ⟨r, i, none⟩ v) (some a) := by
  have hr := h.hr
  have hab := h.hab
  refine ⟨⟨?_, ?_, h.pos.sz, h.pos.le⟩, h.g.os, h.g.tape, h.g.output, by have := h.g.size; simpa [World.setCell] using this, fun j hj hn => ?_⟩
  · rw [Below.heap_setCell _ _ _ _ (by show a ≠ r; omega)]; exact h.pos.hA
  · rw [Below.heap_setCell _ _ _ _ (by show b ≠ r; omega)]; exact h.pos.hB
  · rw [Below.heap_setCell _ _ _ _ (by show j ≠ r; omega)]; exact h.g.block j hj hn
theorem Form.set0 (h : Form w w1 a b s k r x0 x1 x2 x3) (v : Int) : Form w (w1.setCell ⟨r, 0, none⟩ (.int .i64 v)) a b s k r v x1 x2 x3 := ⟨(h.far 0 _).1, (h.far 0 _).2, h.q.s0 v, h.hr, h.hab⟩
theorem Form.set1 (h : Form w w1 a b s k r x0 x1 x2 x3) (v : Int) : Form w (w1.setCell ⟨r, 1, none⟩ (.int .i64 v)) a b s k r x0 v x2 x3 := ⟨(h.far 1 _).1, (h.far 1 _).2, h.q.s1 v, h.hr, h.hab⟩
theorem Form.set2 (h : Form w w1 a b s k r x0 x1 x2 x3) (v : Int) : Form w (w1.setCell ⟨r, 2, none⟩ (.int .i64 v)) a b s k r x0 x1 v x3 := ⟨(h.far 2 _).1, (h.far 2 _).2, h.q.s2 v, h.hr, h.hab⟩
theorem Form.set3 (h : Form w w1 a b s k r x0 x1 x2 x3) (v : Int) : Form w (w1.setCell ⟨r, 3, none⟩ (.int .i64 v)) a b s k r x0 x1 x2 v := ⟨(h.far 3 _).1, (h.far 3 _).2, h.q.s3 v, h.hr, h.hab⟩
theorem Form.again (h : Form w w1 a b s k r x0 x1 x2 x3) : Form w ((((w1.setCell ⟨r, 0, none⟩ (.int .i64 x0)).setCell ⟨r, 1, none⟩ (.int .i64 x1)).setCell ⟨r, 2, none⟩ (.int .i64 x2)).setCell ⟨r, 3, none⟩ (.int .i64 x3)) a b s k r x0 x1 x2 x3 :=
  (((h.set0 x0).set1 x1).set2 x2).set3 x3
end

/-- What the form hands back is read in its block. -/
theorem form_read {w : World} {r : Nat} {x0 x1 x2 x3 : Int} (h : Quad w r x0 x1 x2 x3) (fn : Func) (tmps : Array Value) (B : Bool) (hr : fn.results = Tryd.f41.results) (h2 : tmps[2]?.getD undef = .pointer (some ⟨r, 0, none⟩)) (h3 : tmps[3]?.getD undef = .bool B) :
    (results fn tmps).run Tryd.prog w = .ok (.tuple #[.agg #[.int .i64 x0, .int .i64 x1, .int .i64 x2, .int .i64 x3], .bool B]) w := by
  have q0 := h.c0
  have q1 := h.c1
  have q2 := h.c2
  have q3 := h.c3
  unfold results
  rw [hr, Tryd.results41]
  simp [go_sem, h2, h3, q0, q1, q2, q3]

set_option maxHeartbeats 1600000 in
theorem dateForm_any {s : ByteArray} {k : Nat} {a b : Nat} {w : World} (hat : At w a b s k) :
    Calls Tryd.prog 41 #[.func (.func 82) #[] #[.pointer (some ⟨a, 0, none⟩), .pointer (some ⟨b, 0, none⟩)]] w fun e w' => e = .returned (.tuple #[.agg #[.int .i64 (dateFV (rem s k)).y, .int .i64 (dateFV (rem s k)).m, .int .i64 (dateFV (rem s k)).d, .int .i64 0], .bool (dateFV (rem s k)).ok]) ∧ Moved w w' a b s (k + (dateFV (rem s k)).used) := by
  rcases hd : digitsV 4 (rem s k) 0 with ⟨n, u⟩
  have hu := digitsV_le 4 (rem s k) 0
  rw [hd] at hu
  simp only at hu
  have hF := Form.start hat
  have hmin : rem ⟨#[45]⟩ 0 = [45] := rfl
  by_cases c1 : u < 4
  · have hv : dateFV (rem s k) = ⟨n, 0, 0, false, u⟩ := by unfold dateFV; rw [hd, if_pos c1]
    have c1i : (u : Int) < 4 := by omega
    have HD := Lib.hid hd; have HV := Lib.hid hv; clear hd hv
    go_enter Tryd.func41, Tryd.ntmps41
    go_wp2_with fail
    refine (digits_any 4 (by omega) hF.pos HD).mono ?_; rintro e w1 ⟨rfl, hm1⟩
    have hF1 := hF.step hm1
    have p0 := hF1.q.c0
    have p1 := hF1.q.c1
    have p2 := hF1.q.c2
    have p3 := hF1.q.c3
    have pf := hF1.q.free
    have hF2 := hF1.set0 n
    have q0 := hF2.q.c0
    have q1 := hF2.q.c1
    have q2 := hF2.q.c2
    have q3 := hF2.q.c3
    have qf := hF2.q.free
    have HF2 := Lib.hid hF2
    clear hF hF1 hF2 hm1
    go_wp2_with fail
    exact bodyPost_ret (form_read HF2.out.again.q _ _ false rfl rfl rfl) rfl ⟨by rw [HV.out], by rw [HV.out]; exact ⟨HF2.out.again.pos, HF2.out.again.g⟩⟩
  have hu4 : u = 4 := by omega
  subst hu4
  clear c1 hu
  rcases hw1 : wordV [45] (rem s (k + 4)) with ⟨o1, v1⟩
  have HD := Lib.hid hd
  cases o1 with
  | false =>
    have e1 := word1_no (R := rem s (k + 4)) (c := 45) (by rw [hw1])
    rw [hw1] at e1
    simp only [Prod.mk.injEq, true_and] at e1
    subst e1
    have hv : dateFV (rem s k) = ⟨n, 0, 0, false, 4⟩ := by unfold dateFV; rw [hd, if_neg (by omega)]; simp only [rem_drop, hw1, if_true]
    have HV := Lib.hid hv; have HW1 := Lib.hid hw1; clear hd hv hw1
    go_enter Tryd.func41, Tryd.ntmps41
    go_wp2_with fail
    refine (digits_any 4 (by omega) hF.pos HD).mono ?_; rintro e w1 ⟨rfl, hm1⟩
    have hF1 := hF.step hm1
    have p0 := hF1.q.c0
    have p1 := hF1.q.c1
    have p2 := hF1.q.c2
    have p3 := hF1.q.c3
    have pf := hF1.q.free
    have hF2 := hF1.set0 n
    have q0 := hF2.q.c0
    have q1 := hF2.q.c1
    have q2 := hF2.q.c2
    have q3 := hF2.q.c3
    have qf := hF2.q.free
    have HF2 := Lib.hid hF2
    clear hF hF1 hF2 hm1
    go_wp2_with fail
    refine (word_is ⟨#[45]⟩ (by decide) HF2.out.pos (ok := false) (v := 0) (by rw [hmin]; exact HW1.out)).mono ?_; rintro e w2 ⟨rfl, hm2⟩
    have hF3 := HF2.out.step hm2
    have r0 := hF3.q.c0
    have r1 := hF3.q.c1
    have r2 := hF3.q.c2
    have r3 := hF3.q.c3
    have rf := hF3.q.free
    have HF3 := Lib.hid hF3
    clear hF3 hm2
    go_wp2_with fail
    exact bodyPost_ret (form_read HF3.out.again.q _ _ false rfl rfl rfl) rfl ⟨by rw [HV.out], by rw [HV.out]; exact ⟨HF3.out.again.pos, HF3.out.again.g⟩⟩
  | true =>
    have e1 := word1_yes (R := rem s (k + 4)) (c := 45) (by rw [hw1])
    rw [hw1] at e1
    simp only [Prod.mk.injEq, true_and] at e1
    subst e1
    rcases hp1 : pairV 99 (rem s (k + 4 + 1)) with ⟨m, o2, x2⟩
    cases o2 with
    | false =>
      have hv : dateFV (rem s k) = ⟨n, m, 0, false, 5 + x2⟩ := by
        have a1 : rem s (k + 5) = rem s (k + 4 + 1) := rfl
        unfold dateFV; rw [hd, if_neg (by omega)]; simp only [rem_drop, hw1]; rw [if_neg (by simp), a1, hp1, if_pos rfl]
      have HV := Lib.hid hv; have HW1 := Lib.hid hw1; have HP1 := Lib.hid hp1; clear hd hv hw1 hp1
      go_enter Tryd.func41, Tryd.ntmps41
      go_wp2_with fail
      refine (digits_any 4 (by omega) hF.pos HD).mono ?_; rintro e w1 ⟨rfl, hm1⟩
      have hF1 := hF.step hm1
      have p0 := hF1.q.c0
      have p1 := hF1.q.c1
      have p2 := hF1.q.c2
      have p3 := hF1.q.c3
      have pf := hF1.q.free
      have hF2 := hF1.set0 n
      have q0 := hF2.q.c0
      have q1 := hF2.q.c1
      have q2 := hF2.q.c2
      have q3 := hF2.q.c3
      have qf := hF2.q.free
      have HF2 := Lib.hid hF2
      clear hF hF1 hF2 hm1
      go_wp2_with fail
      refine (word_is ⟨#[45]⟩ (by decide) HF2.out.pos (ok := true) (v := 1) (by rw [hmin]; exact HW1.out)).mono ?_; rintro e w2 ⟨rfl, hm2⟩
      have hF3 := HF2.out.step hm2
      have r0 := hF3.q.c0
      have r1 := hF3.q.c1
      have r2 := hF3.q.c2
      have r3 := hF3.q.c3
      have rf := hF3.q.free
      have HF3 := Lib.hid hF3
      clear hF3 hm2
      go_wp2_with fail
      refine (pair_is 99 (by omega) (by omega) HF3.out.pos HP1.out).mono ?_; rintro e w3 ⟨rfl, hm3⟩
      have hF4 := HF3.out.step hm3
      have s0 := hF4.q.c0
      have s1 := hF4.q.c1
      have s2 := hF4.q.c2
      have s3 := hF4.q.c3
      have sf := hF4.q.free
      have hF5 := hF4.set1 m
      have t0 := hF5.q.c0
      have t1 := hF5.q.c1
      have t2 := hF5.q.c2
      have t3 := hF5.q.c3
      have tf := hF5.q.free
      have HF5 := Lib.hid hF5
      clear hF4 hF5 hm3
      go_wp2_with fail
      exact bodyPost_ret (form_read HF5.out.again.q _ _ false rfl rfl rfl) rfl ⟨by rw [HV.out], by rw [HV.out]; exact Moved.eq ⟨HF5.out.again.pos, HF5.out.again.g⟩ (by show k + 4 + 1 + x2 = k + (5 + x2); omega)⟩
    | true =>
      have ex := pairV_used 99 (rem s (k + 4 + 1)) (by rw [hp1])
      rw [hp1] at ex
      simp only at ex
      subst ex
      rcases hw2 : wordV [45] (rem s (k + 4 + 1 + 2)) with ⟨o3, v3⟩
      have a1 : rem s (k + 5) = rem s (k + 4 + 1) := rfl
      have a2 : rem s (k + 7) = rem s (k + 4 + 1 + 2) := rfl
      cases o3 with
      | false =>
        have e2 := word1_no (R := rem s (k + 4 + 1 + 2)) (c := 45) (by rw [hw2])
        rw [hw2] at e2
        simp only [Prod.mk.injEq, true_and] at e2
        subst e2
        have hv : dateFV (rem s k) = ⟨n, m, 0, false, 7⟩ := by
          unfold dateFV; rw [hd, if_neg (by omega)]; simp only [rem_drop, hw1]; rw [if_neg (by simp), a1, hp1, if_neg (by simp), a2, hw2, if_pos rfl]
        have HV := Lib.hid hv; have HW1 := Lib.hid hw1; have HP1 := Lib.hid hp1; have HW2 := Lib.hid hw2; clear hd hv hw1 hp1 hw2 a1 a2
        go_enter Tryd.func41, Tryd.ntmps41
        go_wp2_with fail
        refine (digits_any 4 (by omega) hF.pos HD).mono ?_; rintro e w1 ⟨rfl, hm1⟩
        have hF1 := hF.step hm1
        have p0 := hF1.q.c0
        have p1 := hF1.q.c1
        have p2 := hF1.q.c2
        have p3 := hF1.q.c3
        have pf := hF1.q.free
        have hF2 := hF1.set0 n
        have q0 := hF2.q.c0
        have q1 := hF2.q.c1
        have q2 := hF2.q.c2
        have q3 := hF2.q.c3
        have qf := hF2.q.free
        have HF2 := Lib.hid hF2
        clear hF hF1 hF2 hm1
        go_wp2_with fail
        refine (word_is ⟨#[45]⟩ (by decide) HF2.out.pos (ok := true) (v := 1) (by rw [hmin]; exact HW1.out)).mono ?_; rintro e w2 ⟨rfl, hm2⟩
        have hF3 := HF2.out.step hm2
        have r0 := hF3.q.c0
        have r1 := hF3.q.c1
        have r2 := hF3.q.c2
        have r3 := hF3.q.c3
        have rf := hF3.q.free
        have HF3 := Lib.hid hF3
        clear hF3 hm2
        go_wp2_with fail
        refine (pair_is 99 (by omega) (by omega) HF3.out.pos HP1.out).mono ?_; rintro e w3 ⟨rfl, hm3⟩
        have hF4 := HF3.out.step hm3
        have s0 := hF4.q.c0
        have s1 := hF4.q.c1
        have s2 := hF4.q.c2
        have s3 := hF4.q.c3
        have sf := hF4.q.free
        have hF5 := hF4.set1 m
        have t0 := hF5.q.c0
        have t1 := hF5.q.c1
        have t2 := hF5.q.c2
        have t3 := hF5.q.c3
        have tf := hF5.q.free
        have HF5 := Lib.hid hF5
        clear hF4 hF5 hm3
        go_wp2_with fail
        refine (word_is ⟨#[45]⟩ (by decide) HF5.out.pos (ok := false) (v := 0) (by rw [hmin]; exact HW2.out)).mono ?_; rintro e w4 ⟨rfl, hm4⟩
        have hF6 := HF5.out.step hm4
        have a0 := hF6.q.c0
        have a1 := hF6.q.c1
        have a2 := hF6.q.c2
        have a3 := hF6.q.c3
        have af := hF6.q.free
        have HF6 := Lib.hid hF6
        clear hF6 hm4
        go_wp2_with fail
        exact bodyPost_ret (form_read HF6.out.again.q _ _ false rfl rfl rfl) rfl ⟨by rw [HV.out], by rw [HV.out]; exact Moved.eq ⟨HF6.out.again.pos, HF6.out.again.g⟩ (by show k + 4 + 1 + 2 + 0 = k + 7; omega)⟩
      | true =>
        have e2 := word1_yes (R := rem s (k + 4 + 1 + 2)) (c := 45) (by rw [hw2])
        rw [hw2] at e2
        simp only [Prod.mk.injEq, true_and] at e2
        subst e2
        rcases hp2 : pairV 99 (rem s (k + 4 + 1 + 2 + 1)) with ⟨d, o4, x4⟩
        have a3 : rem s (k + 8) = rem s (k + 4 + 1 + 2 + 1) := rfl
        have hv : dateFV (rem s k) = ⟨n, m, d, o4, 8 + x4⟩ := by
          unfold dateFV; rw [hd, if_neg (by omega)]; simp only [rem_drop, hw1]; rw [if_neg (by simp), a1, hp1, if_neg (by simp), a2, hw2, if_neg (by simp), a3, hp2]
        have HV := Lib.hid hv; have HW1 := Lib.hid hw1; have HP1 := Lib.hid hp1; have HW2 := Lib.hid hw2; have HP2 := Lib.hid hp2; clear hd hv hw1 hp1 hw2 hp2 a1 a2 a3
        go_enter Tryd.func41, Tryd.ntmps41
        go_wp2_with fail
        refine (digits_any 4 (by omega) hF.pos HD).mono ?_; rintro e w1 ⟨rfl, hm1⟩
        have hF1 := hF.step hm1
        have p0 := hF1.q.c0
        have p1 := hF1.q.c1
        have p2 := hF1.q.c2
        have p3 := hF1.q.c3
        have pf := hF1.q.free
        have hF2 := hF1.set0 n
        have q0 := hF2.q.c0
        have q1 := hF2.q.c1
        have q2 := hF2.q.c2
        have q3 := hF2.q.c3
        have qf := hF2.q.free
        have HF2 := Lib.hid hF2
        clear hF hF1 hF2 hm1
        go_wp2_with fail
        refine (word_is ⟨#[45]⟩ (by decide) HF2.out.pos (ok := true) (v := 1) (by rw [hmin]; exact HW1.out)).mono ?_; rintro e w2 ⟨rfl, hm2⟩
        have hF3 := HF2.out.step hm2
        have r0 := hF3.q.c0
        have r1 := hF3.q.c1
        have r2 := hF3.q.c2
        have r3 := hF3.q.c3
        have rf := hF3.q.free
        have HF3 := Lib.hid hF3
        clear hF3 hm2
        go_wp2_with fail
        refine (pair_is 99 (by omega) (by omega) HF3.out.pos HP1.out).mono ?_; rintro e w3 ⟨rfl, hm3⟩
        have hF4 := HF3.out.step hm3
        have s0 := hF4.q.c0
        have s1 := hF4.q.c1
        have s2 := hF4.q.c2
        have s3 := hF4.q.c3
        have sf := hF4.q.free
        have hF5 := hF4.set1 m
        have t0 := hF5.q.c0
        have t1 := hF5.q.c1
        have t2 := hF5.q.c2
        have t3 := hF5.q.c3
        have tf := hF5.q.free
        have HF5 := Lib.hid hF5
        clear hF4 hF5 hm3
        go_wp2_with fail
        refine (word_is ⟨#[45]⟩ (by decide) HF5.out.pos (ok := true) (v := 1) (by rw [hmin]; exact HW2.out)).mono ?_; rintro e w4 ⟨rfl, hm4⟩
        have hF6 := HF5.out.step hm4
        have a0 := hF6.q.c0
        have a1 := hF6.q.c1
        have a2 := hF6.q.c2
        have a3 := hF6.q.c3
        have af := hF6.q.free
        have HF6 := Lib.hid hF6
        clear hF6 hm4
        go_wp2_with fail
        refine (pair_is 99 (by omega) (by omega) HF6.out.pos HP2.out).mono ?_; rintro e w5 ⟨rfl, hm5⟩
        have hF7 := HF6.out.step hm5
        have b0 := hF7.q.c0
        have b1 := hF7.q.c1
        have b2 := hF7.q.c2
        have b3 := hF7.q.c3
        have bff := hF7.q.free
        have hF8 := hF7.set2 d
        have c0 := hF8.q.c0
        have c1 := hF8.q.c1
        have c2 := hF8.q.c2
        have c3 := hF8.q.c3
        have cf := hF8.q.free
        have HF8 := Lib.hid hF8
        clear hF7 hF8 hm5
        go_wp2_with fail
        exact bodyPost_ret (form_read HF8.out.again.q _ _ o4 rfl rfl rfl) rfl ⟨by rw [HV.out], by rw [HV.out]; exact Moved.eq ⟨HF8.out.again.pos, HF8.out.again.g⟩ (by show k + 4 + 1 + 2 + 1 + x4 = k + (8 + x4); omega)⟩
end Go.Proofs.YtemaclfiajbjdacDoor
