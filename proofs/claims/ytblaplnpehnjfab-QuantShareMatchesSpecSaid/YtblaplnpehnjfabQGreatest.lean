/- The contract of greatestFirst: the numbers in the order of their rests. -/
import Derived.Test.YtblaplnpehnjfabQStable
namespace Go.Proofs.Ytblaplnpehnjfab
open Go.RowKit

theorem info_int : (Try.prog.info? 3).map (fun i => (i.zero, i.size, i.bytes)) = some (some (.int .i64 0), 1, 8) := by kernel_rfl
theorem made_row (n : Nat) : madeCells #[Value.int .i64 0] n = fRow n (fun _ => 0) := by
  apply Array.ext
  · simp [madeCells, fRow]
  · intro i h1 h2
    simp [madeCells, fRow, Nat.mod_one]

theorem sortStable_any {w : World} {g c r n : Nat} {ks : List Int} (h : Sor w g c r n ks (fun k => k)) (h0 : 0 < n) :
    Calls Try.prog 70 #[.slice (some ⟨g, 0, none⟩) n n, .func (.func 71) #[] #[.pointer (some ⟨c, 0, none⟩)]] w fun e w' => e = .returned (.tuple #[]) ∧ (∃ f', Sor w' g c r n ks f' ∧ Ord (nth ks) n f') ∧ w.grownBy w' (some g) := by
  have hn := h.hn
  go_enter Try.func70, Try.ntmps70
  go_wp2_with fail
  refine (stable_any h h0).mono ?_
  rintro e w1 ⟨rfl, h1, hg1⟩
  go_wp2_with fail
  refine bodyPost_end (results_none rfl _ _ _) rfl ?_
  exact ⟨rfl, h1, hg1⟩

theorem fRow_congr {n : Nat} {f f' : Nat → Nat} (h : ∀ k, k < n → f k = f' k) : fRow n f = fRow n f' := by
  unfold fRow
  congr 1
  exact List.map_congr_left fun k hk => by rw [h k (List.mem_range.1 hk)]
theorem Sor.congr {w : World} {g c r n : Nat} {ks : List Int} {f f' : Nat → Nat} (h : Sor w g c r n ks f) (e : ∀ k, k < n → f k = f' k) : Sor w g c r n ks f' :=
  ⟨by rw [← fRow_congr e]; exact h.hG, h.hC, h.hR, h.hl, h.hn, h.gc, h.gr, fun k hk => by rw [← e k hk]; exact h.lt k hk⟩
theorem grow_at {w0 w : World} {g : Nat} (h : w0.grownBy w none) (hb : w0.heap.size ≤ g) (k : Nat) (v : Value) : w0.grownBy (w.setCell ⟨g, k, none⟩ v) none :=
  ⟨h.os, h.tape, h.output, by have := h.size; simpa [World.setCell] using this, fun i hi _ => by rw [Below.heap_setCell _ _ _ _ (by show i ≠ g; omega)]; exact h.block i hi (by simp)⟩
theorem grown_at {w0 w w' : World} {g : Nat} (h : w0.grownBy w none) (h' : w.grownBy w' (some g)) (hb : w0.heap.size ≤ g) : w0.grownBy w' none :=
  ⟨h'.os.trans h.os, h'.tape.trans h.tape, h'.output.trans h.output, Nat.le_trans h.size h'.size, fun i hi _ => (h'.block i (Nat.lt_of_lt_of_le hi h.size) (fun e => by have := Option.some.inj e; omega)).trans (h.block i hi (by simp))⟩

/-- Up to j the numbers are laid. -/
def laidUp (j k : Nat) : Nat := if k < j then k else 0
theorem laid_upd (j : Nat) : upd (laidUp j) j j = laidUp (j + 1) := by
  funext k; unfold upd laidUp
  repeat' split
  all_goals omega

set_option maxHeartbeats 800000 in
theorem greatest_any {w : World} {r n : Nat} {ks : List Int} (hR : w.heap[r]? = some (.cells (ks.map (Value.int .i64)).toArray 3 (0, 0))) (hl : ks.length = n) (h0 : 0 < n) (hn : n ≤ 1000) :
    Calls Try.prog 45 #[.slice (some ⟨r, 0, none⟩) n n] w fun e w' => (∃ g f, e = .returned (.slice (some ⟨g, 0, none⟩) n n) ∧ w.heap.size ≤ g ∧ w'.heap[g]? = some (.cells (fRow n f) 3 (0, 0)) ∧ Ord (nth ks) n f) ∧ w.grownBy w' none := by
  have hmk := run_make_row' (P := Try.prog) 50 3 (.int .i64 0) 8 Try.underlying50 info_int rfl .i64 .i64 n (by omega) (by omega)
  have hmf : ∀ (fn : Fn) (first cap : Array Value) (w : World), (Instr.makeFunc fn first cap).run Try.prog w = .ok (.func fn first cap) w := fun _ _ _ _ => rfl
  have hrs := lt_of_block hR
  have HR := Lib.hid hR; have HL := Lib.hid hl; clear hR hl
  go_enter Try.func45, Try.ntmps45
  go_wp2_with fail
  have hS0 : Sor ((w.alloc (.cells #[.slice (some ⟨r, 0, none⟩) n n] 50)).alloc (.cells (madeCells #[.int .i64 0] n) 3)) (w.heap.size + 1) w.heap.size r n ks (laidUp 0) := by
    refine ⟨?_, ?_, ?_, HL.out, hn, by omega, by omega, fun k hk => by unfold laidUp; split <;> omega⟩
    · have q := heap_alloc_new (w.alloc (.cells #[.slice (some ⟨r, 0, none⟩) n n] 50)) (.cells (madeCells #[.int .i64 0] n) 3)
      rw [made_row, show (fun _ : Nat => 0) = laidUp 0 by funext k; simp [laidUp]] at q
      simpa [made_row, show (fun _ : Nat => 0) = laidUp 0 by funext k; simp [laidUp]] using q
    · rw [Below.heap_alloc _ _ _ (by simp)]; exact heap_alloc_new w _
    · rw [Below.heap_alloc _ _ _ (by simp; omega), Below.heap_alloc _ _ _ hrs]; exact HR.out
  have hg0 : w.grownBy ((w.alloc (.cells #[.slice (some ⟨r, 0, none⟩) n n] 50)).alloc (.cells (madeCells #[.int .i64 0] n) 3)) none := grown_trans (World.grownBy_alloc _ _ _) (World.grownBy_alloc _ _ _)
  have HS0 := Lib.hid hS0; clear hS0 hmk
  go_loopw [10] (fun iv wr => ∃ j : Nat, j ≤ n ∧ iv = .int .i64 j ∧ Sor wr (w.heap.size + 1) w.heap.size r n ks (laidUp j) ∧ w.grownBy wr none) (fun iv _ => n - (intOf iv).toNat)
  case atStart => exact ⟨0, Nat.zero_le _, rfl, HS0.out, hg0⟩
  case round =>
    obtain ⟨j, hj, rfl, hs, hg⟩ := hrel
    by_cases hlt : j < n
    · have cx := hs.cell hlt
      have fx := hs.free j
      have hst := hs.set (k := j) (v := j) hlt
      rw [laid_upd] at hst
      go_wp2_with fail
      exact ⟨⟨j + 1, by omega, by go_num, hst, grow_at hg (by omega) _ _⟩, by simp [intOf]; omega⟩
    · have hjn : j = n := by omega
      subst hjn
      have hid : Sor wr (w.heap.size + 1) w.heap.size r j ks (fun k => k) := hs.congr (fun k hk => by simp [laidUp, hk])
      go_wp2_with fail
      refine (sortStable_any hid h0).mono ?_
      rintro e w1 ⟨rfl, ⟨f', hs1, ho⟩, hg1⟩
      go_wp2_with fail
      go_ret
      exact ⟨⟨_, f', rfl, by omega, hs1.hG, ho⟩, grown_at hg hg1 (by omega)⟩
end Go.Proofs.Ytblaplnpehnjfab
