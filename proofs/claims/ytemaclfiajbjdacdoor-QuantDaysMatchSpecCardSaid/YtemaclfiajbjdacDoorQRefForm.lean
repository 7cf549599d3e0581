/- The reference's forms: lit, pair, form, dateForm. -/
import Derived.Test.YtemaclfiajbjdacDoorQMatch
namespace Go.Proofs.YtemaclfiajbjdacDoor
open Go.RowKit

/-- A token that was built in a block of its own is handed back by value. -/
theorem tok_read {w : World} {a b c d e : Value} (fn : Func) (tmps : Array Value) (hr : fn.results = Tryd.f53.results) (h2 : tmps[2]?.getD undef = .pointer (some ⟨w.heap.size, 0, none⟩)) :
    (results fn tmps).run Tryd.prog (w.alloc (.cells #[a, b, c, d, e] 61)) = .ok (.agg #[a, b, c, d, e]) (w.alloc (.cells #[a, b, c, d, e] 61)) := by
  have hb : (w.alloc (.cells #[a, b, c, d, e] 61)).heap[w.heap.size]? = _ := heap_alloc_new w _
  have q0 : (w.alloc (.cells #[a, b, c, d, e] 61)).cell? ⟨w.heap.size, 0, none⟩ = some a := by simp only [World.cell?, hb]; rfl
  have q1 : (w.alloc (.cells #[a, b, c, d, e] 61)).cell? ⟨w.heap.size, 1, none⟩ = some b := by simp only [World.cell?, hb]; rfl
  have q2 : (w.alloc (.cells #[a, b, c, d, e] 61)).cell? ⟨w.heap.size, 2, none⟩ = some c := by simp only [World.cell?, hb]; rfl
  have q3 : (w.alloc (.cells #[a, b, c, d, e] 61)).cell? ⟨w.heap.size, 3, none⟩ = some d := by simp only [World.cell?, hb]; rfl
  have q4 : (w.alloc (.cells #[a, b, c, d, e] 61)).cell? ⟨w.heap.size, 4, none⟩ = some e := by simp only [World.cell?, hb]; rfl
  unfold results
  rw [hr, Tryd.results53]
  simp [go_sem, h2, q0, q1, q2, q3, q4]

theorem lit_any (b : ByteArray) (w : World) :
    Calls Tryd.prog 53 #[.string b] w fun e w' => e = .returned (.agg #[.int .i64 1, .string b, .int .i64 0, .int .i64 0, .int .i64 0]) ∧ w.grownBy w' none := by
  go_enter Tryd.func53, Tryd.ntmps53
  go_wp2_with fail
  exact bodyPost_ret (tok_read _ _ rfl rfl) rfl ⟨rfl, World.grownBy_alloc _ _ _⟩

theorem rpair_any (h : Int) (w : World) :
    Calls Tryd.prog 54 #[.int .i64 h] w fun e w' => e = .returned (.agg #[.int .i64 3, .string ⟨#[]⟩, .int .i64 0, .int .i64 h, .int .i64 0]) ∧ w.grownBy w' none := by
  go_enter Tryd.func54, Tryd.ntmps54
  go_wp2_with fail
  exact bodyPost_ret (tok_read _ _ rfl rfl) rfl ⟨rfl, World.grownBy_alloc _ _ _⟩

theorem form_any (v : Value) (w : World) :
    Calls Tryd.prog 52 #[v] w fun e w' => e = .returned v ∧ w = w' := by
  go_enter Tryd.func52, Tryd.ntmps52
  go_wp2_with fail
  go_ret
  exact ⟨rfl, rfl⟩

abbrev dateCells : Array Value := #[.int .i64 3, .string ⟨#[]⟩, .int .i64 0, .int .i64 99, .int .i64 0, .int .i64 3, .string ⟨#[]⟩, .int .i64 0, .int .i64 99, .int .i64 0, .int .i64 1, .string ⟨#[45]⟩, .int .i64 0, .int .i64 0, .int .i64 0, .int .i64 3, .string ⟨#[]⟩, .int .i64 0, .int .i64 99, .int .i64 0, .int .i64 1, .string ⟨#[45]⟩, .int .i64 0, .int .i64 0, .int .i64 0, .int .i64 3, .string ⟨#[]⟩, .int .i64 0, .int .i64 99, .int .i64 0]

theorem toks_alloc (w : World) : ToksAt (w.alloc (.cells dateCells 61)) w.heap.size dateToks := by
  have hb : (w.alloc (.cells dateCells 61)).heap[w.heap.size]? = _ := heap_alloc_new w _
  have hc : ∀ (o : Nat) (v : Value), dateCells[o]? = some v → (w.alloc (.cells dateCells 61)).cell? ⟨w.heap.size, o, none⟩ = some v := by
    intro o v h
    simp only [World.cell?, hb]
    exact h
  have two : TokIs (.two 99) ⟨#[]⟩ 0 99 0 := ⟨by omega, by omega, rfl, rfl, rfl, rfl⟩
  have lit : TokIs (.lit [45]) ⟨#[45]⟩ 0 0 0 := ⟨by show (1 : Nat) ≤ 1000; omega, rfl, rfl, rfl, rfl⟩
  intro i h
  match i, h with
  | 0, _ => exact ⟨_, _, _, _, two, hc _ _ rfl, hc _ _ rfl, hc _ _ rfl, hc _ _ rfl, hc _ _ rfl⟩
  | 1, _ => exact ⟨_, _, _, _, two, hc _ _ rfl, hc _ _ rfl, hc _ _ rfl, hc _ _ rfl, hc _ _ rfl⟩
  | 2, _ => exact ⟨_, _, _, _, lit, hc _ _ rfl, hc _ _ rfl, hc _ _ rfl, hc _ _ rfl, hc _ _ rfl⟩
  | 3, _ => exact ⟨_, _, _, _, two, hc _ _ rfl, hc _ _ rfl, hc _ _ rfl, hc _ _ rfl, hc _ _ rfl⟩
  | 4, _ => exact ⟨_, _, _, _, lit, hc _ _ rfl, hc _ _ rfl, hc _ _ rfl, hc _ _ rfl, hc _ _ rfl⟩
  | 5, _ => exact ⟨_, _, _, _, two, hc _ _ rfl, hc _ _ rfl, hc _ _ rfl, hc _ _ rfl, hc _ _ rfl⟩
  | n + 6, h => exact absurd h (by show ¬ (n + 6 < 6); omega)

theorem toks_grown {w w' : World} {g : Nat} {ts : List Tok} (h : ToksAt w g ts) (k : w.grownBy w' none) : ToksAt w' g ts := by
  intro i hi
  obtain ⟨b, x2, x3, x4, hT, h0, h1, h2, h3, h4⟩ := h i hi
  exact ⟨b, x2, x3, x4, hT, k.cell h0 (by simp), k.cell h1 (by simp), k.cell h2 (by simp), k.cell h3 (by simp), k.cell h4 (by simp)⟩

set_option maxHeartbeats 800000 in
theorem dateForm_ref (w : World) :
    Calls Tryd.prog 43 #[] w fun e w' => ∃ g, e = .returned (.slice (some ⟨g, 0, none⟩) 6 6) ∧ ToksAt w' g dateToks ∧ w.grownBy w' none := by
  go_enter Tryd.func43, Tryd.ntmps43
  have hg0 := grown_refl w none
  go_wp2_with (first | (go_at_call 54; refine (rpair_any 99 _).mono ?_; rintro e w1 ⟨rfl, hg1⟩; replace hg0 := grown_trans hg0 hg1; clear hg1) | (go_at_call 53; refine (lit_any _ _).mono ?_; rintro e w1 ⟨rfl, hg1⟩; replace hg0 := grown_trans hg0 hg1; clear hg1))
  refine (form_any _ _).mono ?_; rintro e w9 ⟨rfl, rfl⟩
  go_wp2_with fail
  go_ret
  exact ⟨_, rfl, toks_alloc _, grown_trans hg0 (World.grownBy_alloc _ _ _)⟩
end Go.Proofs.YtemaclfiajbjdacDoor
