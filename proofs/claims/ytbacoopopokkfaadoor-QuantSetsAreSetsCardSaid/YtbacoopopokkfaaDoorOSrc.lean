/- append of a list, wherever it lies, to a row of one's own. -/
import Derived.Test.YtbacoopopokkfaaDoorMRows
import Derived.Lib.AppendZeros
import Derived.Deep.AppendLies
namespace Go.Proofs.YtbacoopopokkfaaDoor
open Go.RowKit
set_option linter.unusedSimpArgs false
set_option linter.unusedVariables false

/-- Where values lie that are appended. -/
def SrcAt (w : World) (ao : Option Addr) (m : Nat) (news : List Value) : Prop := (ao = none ∧ m = 0 ∧ news = []) ∨ ∃ ad, ao = some ad ∧ ∀ j u, news[j]? = some u → w.cell? (ad.add j) = some u
section
variable {P : Program} (w : World)
theorem run_app_any_nil (t ty e : TypeId) (i : TypeInfo) (ht : P.underlying t = some (.slice e)) (hi : P.info? e = some i) (s : Option Addr) (n c c' : Nat) (hn : n ≤ c) : (Builtin.append_ #[t, t] ty #[.slice s n c, .slice none 0 c']).run P w = .ok (.slice s n c) w := by
  simp [Builtin.append_, run_underlying ht, sizeOf, typeInfo, hi, Builtin.lenOf, Builtin.firstCells, hn]
  cases s <;> simp [storeCells]

/-- append of a list, wherever it lies, to a row of one's own. -/
theorem wpList_append_srcO {ops : Array Oper} {rest : List Oper} {o : Oper} {a : Go.Act} {Q : Exit → Go.Act → World → Prop} (hgd : o.guard = none) (s x : Operand) (t : TypeId)
    (ho : o.op = .call { callee := .builtin .append, args := #[s, x], argTypes := #[t, t] })
    (base : Nat) (e : TypeId) (i : TypeInfo) (z : Value) (size bytes : Nat) (ht : P.underlying t = some (.slice e)) (hi : P.info? e = some i) (hz : i.zero = some z)
    (hsize : i.size = size) (hby : i.bytes = bytes) (hzs : z.cells.size = size) (hsz : 0 < size)
    (v : Value) (n : Nat) (xs : List Value) (hs : a.eval s = v) (hown : w.ownsRow base e size v n xs)
    (ao : Option Addr) (m c : Nat) (news : List Value) (hx : a.eval x = .slice ao m c) (hr : SrcAt w ao m news) (hl : news.length = m * size) (h1 : ∀ u ∈ news, u.oneCell' = true)
    (h63 : n + m ≤ maxLen) (hbytes : (n + m) * bytes ≤ 140737488355328) (hbase : base ≤ w.heap.size)
    (h : ∀ v' w', w'.ownsRow base e size v' (n + m) (xs ++ news) → w.grownBy w' v.ownBlock → wpList P ops Q rest (a.put o.dst v') w') : wpList P ops Q (o :: rest) a w := by
  rcases hr with ⟨rfl, rfl, rfl⟩ | ⟨ad, rfl, hc⟩
  · obtain ⟨s0, n0, c0, rfl, hnc⟩ : ∃ s0 n0 c0, v = .slice s0 n0 c0 ∧ n0 ≤ c0 := by
      rcases hown.2 with ⟨e, _⟩ | ⟨g, cap, _, e, _, _, hc, _⟩
      · exact ⟨_, _, _, e, Nat.le_refl _⟩
      · exact ⟨_, _, _, e, hc⟩
    refine wpList_plain hgd fun _ hK => ?_
    have hr := run_app_any_nil (P := P) w t o.type e i ht hi s0 n0 c0 c hnc
    unfold Oper.wp execOp
    simp only [ho, resolve, invoke, builtin, Sem.run_bind, Sem.run_pure, Result.andThen_ok, List.map_toArray, List.map_cons, List.map_nil, hs, hx, hr]
    exact hK _ _ (h _ _ (by simpa using hown) (World.grownBy.refl _ _))
  · exact wpList_append_own w hgd s x t ho base e i z size bytes ht hi hz hsize hby hzs hsz v n xs hs hown ad m c news hx hl hc h1 h63 hbytes hbase fun v' w' h2 h3 _ => h v' w' h2 h3
end

/-- A row is what can be appended. -/
theorem rows_src {α : Type} {cs : α → List Value} {K : Nat} (hcs : ∀ x, (cs x).length = K) (hK : 0 < K) {w : World} {ao : Option Addr} {l : List α} (h : RowsAt cs K w ao l) : SrcAt w ao l.length (l.flatMap cs) := by
  cases ao with
  | none => have e := h.nil rfl; subst e; exact .inl ⟨rfl, rfl, rfl⟩
  | some a =>
    rcases Nat.eq_zero_or_pos l.length with h0 | h0
    · have e : l = [] := List.eq_nil_of_length_eq_zero h0
      subst e
      exact .inr ⟨a, rfl, fun j u hu => by simp at hu⟩
    · obtain ⟨g, o, e, hc⟩ := rows_at h h0
      obtain rfl := Option.some.inj e
      refine .inr ⟨_, rfl, fun j u hu => ?_⟩
      have hj : j < l.length * K := by rw [← mflat_len cs K hcs]; exact (List.getElem?_eq_some_iff.1 hu).1
      have h1 : j / K < l.length := Nat.div_lt_of_lt_mul (by rw [Nat.mul_comm]; exact hj)
      have e2 : j = j / K * K + j % K := by rw [Nat.mul_comm]; exact (Nat.div_add_mod j K).symm
      have q := mflat_at cs K hcs l (j / K) (j % K) h1 (Nat.mod_lt _ hK)
      rw [← e2] at q
      have q2 := hc (j / K) h1 (j % K) u (by rw [← q]; exact hu)
      rw [madd_off]
      rw [show o + j = o + j / K * K + j % K by omega]
      exact q2
end Go.Proofs.YtbacoopopokkfaaDoor
