/- The contract of Keep where there is an answer. -/
import Derived.Test.YtgkhhfojioepgaaTFollow
namespace Go.Proofs.Ytgkhhfojioepgaa
open Go.RowKit
set_option linter.unusedSimpArgs false
set_option linter.unusedVariables false

/-- The memory of Keep: the box of the activity, and two rows. -/
structure KpM (w : World) (so : Option Addr) (sn sc R n : Nat) (F G : Nat → Int) (W : World) : Prop where
  b3 : W.cell? ⟨w.heap.size, 3, none⟩ = some (.slice so sn sc)
  r1 : RowAt W R n F
  r2 : RowAt W (R + 1) n G
  g : Below w.heap.size w W
section
variable {w : World} {so : Option Addr} {sn sc R n : Nat} {F G : Nat → Int} {W W' : World}
theorem KpM.grown (h : KpM w so sn sc R n F G W) (hg : W.grownBy W' none) : KpM w so sn sc R n F G W' :=
  ⟨grown_cell hg h.b3, h.r1.grown hg, h.r2.grown hg, h.g.trans ((below_grown hg).mono h.g.size)⟩
theorem KpM.set1 (h : KpM w so sn sc R n F G W) (hR : w.heap.size < R) (k : Nat) (v : Int) : KpM w so sn sc R n (updI F k v) G (W.setCell ⟨R, k, none⟩ (.int .i64 v)) :=
  ⟨by rw [World.cell?_setCell_other _ _ _ _ (fun e => by injection e with e; omega)]; exact h.b3, h.r1.set k v, h.r2.far (by omega) k _, h.g.setCell (by show _ ≤ R; omega) _⟩
theorem KpM.set2 (h : KpM w so sn sc R n F G W) (hR : w.heap.size < R) (k : Nat) (v : Int) : KpM w so sn sc R n F (updI G k v) (W.setCell ⟨R + 1, k, none⟩ (.int .i64 v)) :=
  ⟨by rw [World.cell?_setCell_other _ _ _ _ (fun e => by injection e with e; omega)]; exact h.b3, h.r1.far (by omega) k _, h.r2.set k v, h.g.setCell (by show _ ≤ R + 1; omega) _⟩
theorem KpM.congr (h : KpM w so sn sc R n F G W) {F' G' : Nat → Int} (e1 : ∀ k, k < n → F k = F' k) (e2 : ∀ k, k < n → G k = G' k) : KpM w so sn sc R n F' G' W :=
  ⟨h.b3, h.r1.congr e1, h.r2.congr e2, h.g⟩
end
theorem own_low2 {w : World} {base base' : Nat} {e : TypeId} {size : Nat} {v : Value} {n : Nat} {xs : List Value} (h : w.ownsRow base e size v n xs) (hb : base' ≤ base) : w.ownsRow base' e size v n xs :=
  ⟨h.1, h.2.imp id fun ⟨g, cap, cur, h1, h2, h3⟩ => ⟨g, cap, cur, h1, Nat.le_trans hb h2, h3⟩⟩
/-- May one come from a sample to another one, of an activity? -/
def agS (ss : List Smp) (fast : Int) (i j : Nat) : Bool := agr (smpD ss i) (smpD ss j) fast

/-- The next ones' row and the longest lists' row, in round d, when m of the later ones were looked at. -/
def rowF (n : Nat) (ag : Nat → Nat → Bool) (d m : Nat) : Nat → Int := updI (fun k => (((kpV n ag d).1 k : Nat) : Int)) (n - 1 - d) ((((kpV n ag d).1 (nxt n (kpV n ag d).1 (ag (n - 1 - d)) m) : Nat) : Int) + 1)
def rowG (n : Nat) (ag : Nat → Nat → Bool) (d m : Nat) : Nat → Int := updI (rowK n ag (encM n) d) (n - 1 - d) (encM n (nxt n (kpV n ag d).1 (ag (n - 1 - d)) m))
theorem updI_twice (F : Nat → Int) (k : Nat) (u v : Int) : updI (updI F k u) k v = updI F k v := by
  funext j; unfold updI; split <;> rfl
theorem rowF_zero {n : Nat} {ag : Nat → Nat → Bool} {d : Nat} (h : d < n) : rowF n ag d 0 = updI (fun k => (((kpV n ag d).1 k : Nat) : Int)) (n - 1 - d) 1 := by
  unfold rowF nxt
  rw [(kp_bd n ag d (by omega)).2.1 n (by omega)]; rfl
theorem rowG_zero (n : Nat) (ag : Nat → Nat → Bool) (d : Nat) : rowG n ag d 0 = updI (rowK n ag (encM n) d) (n - 1 - d) (-1) := by
  unfold rowG nxt encM; rw [if_pos rfl]
theorem rowF_end {n : Nat} {ag : Nat → Nat → Bool} {d : Nat} (k : Nat) : rowF n ag d d k = (((kpV n ag (d + 1)).1 k : Nat) : Int) := by
  show updI _ _ _ k = ((if k = n - 1 - d then (kpV n ag d).1 (nxt n (kpV n ag d).1 (ag (n - 1 - d)) d) + 1 else (kpV n ag d).1 k : Nat) : Int)
  unfold updI; split <;> simp
theorem rowG_end {n : Nat} {ag : Nat → Nat → Bool} {d : Nat} (h : d < n) : rowG n ag d d = rowK n ag (encM n) (d + 1) := by
  rw [rowK_succ n ag (encM n) h rfl]; rfl
theorem rowF_at {n : Nat} {ag : Nat → Nat → Bool} {d m : Nat} : rowF n ag d m (n - 1 - d) = (((kpV n ag d).1 (nxt n (kpV n ag d).1 (ag (n - 1 - d)) m) : Nat) : Int) + 1 := by
  unfold rowF updI; rw [if_pos rfl]
theorem rowF_far {n : Nat} {ag : Nat → Nat → Bool} {d m k : Nat} (h : k ≠ n - 1 - d) : rowF n ag d m k = (((kpV n ag d).1 k : Nat) : Int) := by
  unfold rowF updI; rw [if_neg h]
/-- A later one is looked at: the same, or it is the next one. -/
theorem rows_stay {n : Nat} {ag : Nat → Nat → Bool} {d m j : Nat} (hj : j = n - 1 - m) (h : ¬ (ag (n - 1 - d) j = true ∧ (kpV n ag d).1 (nxt n (kpV n ag d).1 (ag (n - 1 - d)) m) ≤ (kpV n ag d).1 j)) : rowF n ag d (m + 1) = rowF n ag d m ∧ rowG n ag d (m + 1) = rowG n ag d m := by
  subst hj
  have e : nxt n (kpV n ag d).1 (ag (n - 1 - d)) (m + 1) = nxt n (kpV n ag d).1 (ag (n - 1 - d)) m := by rw [nxt, if_neg h]
  unfold rowF rowG
  rw [e]
  exact ⟨rfl, rfl⟩
theorem rows_go {n : Nat} {ag : Nat → Nat → Bool} {d m j : Nat} (hm : m < d) (hd : d < n) (hj : j = n - 1 - m) (h1 : ag (n - 1 - d) j = true) (h2 : (kpV n ag d).1 (nxt n (kpV n ag d).1 (ag (n - 1 - d)) m) ≤ (kpV n ag d).1 j) : rowF n ag d (m + 1) = updI (rowF n ag d m) (n - 1 - d) ((((kpV n ag d).1 j : Nat) : Int) + 1) ∧ rowG n ag d (m + 1) = updI (rowG n ag d m) (n - 1 - d) (j : Int) := by
  subst hj
  unfold rowF rowG
  rw [updI_twice, updI_twice]
  have e : nxt n (kpV n ag d).1 (ag (n - 1 - d)) (m + 1) = n - 1 - m := by rw [nxt, if_pos ⟨h1, h2⟩]
  rw [e]
  have e2 : encM n (n - 1 - m) = ((n - 1 - m : Nat) : Int) := by unfold encM; rw [if_neg (by omega)]
  rw [e2]
  exact ⟨rfl, rfl⟩
/-- The memory of the reference's Keep and Fewest: the box of the activity, and two rows. -/
structure KrM (w : World) (so : Option Addr) (sn sc R T n : Nat) (F G : Nat → Int) (W : World) : Prop where
  b3 : W.cell? ⟨w.heap.size, 3, none⟩ = some (.slice so sn sc)
  r1 : RowAt W R n F
  r2 : RowAt W T n G
  g : Below w.heap.size w W
section
variable {w : World} {so : Option Addr} {sn sc R T n : Nat} {F G : Nat → Int} {W W' : World}
theorem KrM.grown (h : KrM w so sn sc R T n F G W) (hg : W.grownBy W' none) : KrM w so sn sc R T n F G W' :=
  ⟨grown_cell hg h.b3, h.r1.grown hg, h.r2.grown hg, h.g.trans ((below_grown hg).mono h.g.size)⟩
theorem KrM.set1 (h : KrM w so sn sc R T n F G W) (hR : w.heap.size < R ∧ w.heap.size < T ∧ R ≠ T) (k : Nat) (v : Int) : KrM w so sn sc R T n (updI F k v) G (W.setCell ⟨R, k, none⟩ (.int .i64 v)) :=
  ⟨by rw [World.cell?_setCell_other _ _ _ _ (fun e => by injection e with e; omega)]; exact h.b3, h.r1.set k v, h.r2.far hR.2.2.symm k _, h.g.setCell (by show _ ≤ R; omega) _⟩
theorem KrM.set2 (h : KrM w so sn sc R T n F G W) (hR : w.heap.size < R ∧ w.heap.size < T ∧ R ≠ T) (k : Nat) (v : Int) : KrM w so sn sc R T n F (updI G k v) (W.setCell ⟨T, k, none⟩ (.int .i64 v)) :=
  ⟨by rw [World.cell?_setCell_other _ _ _ _ (fun e => by injection e with e; omega)]; exact h.b3, h.r1.far hR.2.2 k _, h.r2.set k v, h.g.setCell (by show _ ≤ T; omega) _⟩
theorem KrM.congr (h : KrM w so sn sc R T n F G W) {F' G' : Nat → Int} (e1 : ∀ k, k < n → F k = F' k) (e2 : ∀ k, k < n → G k = G' k) : KrM w so sn sc R T n F' G' W :=
  ⟨h.b3, h.r1.congr e1, h.r2.congr e2, h.g⟩
end
theorem kr_new {w w1 : World} {so : Option Addr} {sn sc n : Nat} {F G : Nat → Int} (b3 : w1.cell? ⟨w.heap.size, 3, none⟩ = some (.slice so sn sc)) (g : Below w.heap.size w w1) (h : w.heap.size < w1.heap.size) (hF : ∀ k, k < n → F k = 0) (hG : ∀ k, k < n → G k = 0) :
    KrM w so sn sc w1.heap.size (w1.heap.size + 1) n F G ((w1.alloc (.cells (madeCells #[.int .i64 0] n) 3)).alloc (.cells (madeCells #[.int .i64 0] n) 3)) ∧ KrM w so sn sc (w1.heap.size + 1) w1.heap.size n F G ((w1.alloc (.cells (madeCells #[.int .i64 0] n) 3)).alloc (.cells (madeCells #[.int .i64 0] n) 3)) := by
  have hb := grown_cell (grown_trans (World.grownBy_alloc w1 (.cells (madeCells #[.int .i64 0] n) 3) none) (World.grownBy_alloc _ (.cells (madeCells #[.int .i64 0] n) 3) none)) b3
  have gg := (g.alloc (Nat.le_of_lt h) (.cells (madeCells #[.int .i64 0] n) 3)).alloc (by simp; omega) (.cells (madeCells #[.int .i64 0] n) 3)
  have a : ∀ (H : Nat → Int), (∀ k, k < n → H k = 0) → RowAt ((w1.alloc (.cells (madeCells #[.int .i64 0] n) 3)).alloc (.cells (madeCells #[.int .i64 0] n) 3)) w1.heap.size n H ∧ RowAt ((w1.alloc (.cells (madeCells #[.int .i64 0] n) 3)).alloc (.cells (madeCells #[.int .i64 0] n) 3)) (w1.heap.size + 1) n H := fun H hH => by
    have e : madeCells #[Value.int .i64 0] n = iRow n H := by rw [iRow_zero, iRow_congr (G := H) (fun k hk => (hH k hk).symm)]
    constructor
    · unfold RowAt
      rw [Below.heap_alloc _ _ _ (by simp), heap_alloc_new, e]
    · have q := heap_alloc_new (w1.alloc (.cells (madeCells #[.int .i64 0] n) 3)) (.cells (madeCells #[.int .i64 0] n) 3)
      unfold RowAt
      rw [← e]
      simpa using q
  exact ⟨⟨hb, (a F hF).1, (a G hG).2, gg⟩, ⟨hb, (a F hF).2, (a G hG).1, gg⟩⟩
end Go.Proofs.Ytgkhhfojioepgaa
