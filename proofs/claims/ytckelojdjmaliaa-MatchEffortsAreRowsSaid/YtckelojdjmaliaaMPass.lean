/- Which gates a step crosses: passings, with the sort as a hypothesis. -/
import Derived.Test.YtckelojdjmaliaaMSide
import Derived.Deep.OwnRows
import Derived.Deep.AppendLies
import Derived.Deep.Light
namespace Go.Proofs.Ytckelojdjmaliaa
open Go.RowKit
set_option linter.unusedSimpArgs false
set_option linter.unusedVariables false

attribute [local go_sem] Oper.semAt_some

structure Psg where
  gate : Int
  part : Int
  whole : Int
  deriving DecidableEq, Inhabited
def psgCs (x : Psg) : List Value := [.int .i64 x.gate, .int .i64 x.part, .int .i64 x.whole]
def gtD (l : List Gt) (i : Nat) : Gt := l.getD i ⟨0, 0, 0, 0⟩
theorem gtD_at {l : List Gt} {i : Nat} (h : i < l.length) : gtD l i = l[i] := by
  unfold gtD; rw [List.getD_eq_getElem?_getD, List.getElem?_eq_getElem h]; rfl
/-- Is the gate crossed by the step, and when? -/
def crosB (g : Gt) (p q : Pt) : Bool := decide (sideV g.A g.B p < 0) && decide (0 ≤ sideV g.A g.B q) && metB g p q
def pas1 (g : Gt) (i : Nat) (p q : Pt) : List Psg := if crosB g p q = true then [⟨i, -sideV g.A g.B p, sideV g.A g.B q - sideV g.A g.B p⟩] else []
def passK (gs : List Gt) (p q : Pt) : Nat → List Psg
  | 0 => []
  | k + 1 => passK gs p q k ++ pas1 (gtD gs k) k p q
theorem pas1_len (g : Gt) (i : Nat) (p q : Pt) : (pas1 g i p q).length ≤ 1 := by unfold pas1; split <;> simp
theorem passK_len (gs : List Gt) (p q : Pt) : ∀ k, (passK gs p q k).length ≤ k
  | 0 => Nat.le_refl _
  | k + 1 => by
    have := passK_len gs p q k; have := pas1_len (gtD gs k) k p q
    simp only [passK, List.length_append]; omega
theorem info_psg : (Try.prog.info? 85).map (fun i => (i.zero, i.size, i.bytes)) = some (some (.agg #[.int .i64 0, .int .i64 0, .int .i64 0]), 3, 24) := by kernel_rfl
/-- What the sort makes of a list of passings. -/
def SortOk (l l' : List Psg) : Prop := ∀ (W : World) (base : Nat) (v : Value), W.ownsRow base 85 3 v l.length (l.flatMap psgCs) →
  Calls Try.prog 77 #[v, .func (.func 78) #[] #[]] W fun e w' => e = .returned (.tuple #[]) ∧ w'.ownsRow base 85 3 v l.length (l'.flatMap psgCs) ∧ W.grownBy w' v.ownBlock
theorem mgrown_row {w w1 w2 : World} {row : Option Nat} (h : w.grownBy w1 none) (g : w1.grownBy w2 row) (hr : ∀ r, row = some r → w.heap.size ≤ r) : w.grownBy w2 none :=
  ⟨g.os.trans h.os, g.tape.trans h.tape, g.output.trans h.output, Nat.le_trans h.size g.size, fun k hk _ => (g.block k (Nat.lt_of_lt_of_le hk h.size) (fun e => by have := hr k e.symm; omega)).trans (h.block k hk (by simp))⟩

set_option maxRecDepth 100000 in
set_option maxHeartbeats 6400000 in
theorem passings_is (go_ : Option Addr) (gc : Nat) (gs : List Gt) (hn : gs.length ≤ 50) (hgs : ∀ g ∈ gs, gate1 g = 0) (p q : Pt) (hp : onP p) (hq : onP q) (w : World) (hg : GatesAt w go_ gs) {l' : List Psg} (hs : SortOk (passK gs p q gs.length) l') :
    Calls Try.prog 44 #[.slice go_ gs.length gc, .agg #[.int .i64 p.x, .int .i64 p.y], .agg #[.int .i64 q.x, .int .i64 q.y]] w fun e w' => (∃ v, e = .returned v ∧ w'.ownsRow w.heap.size 85 3 v (passK gs p q gs.length).length (l'.flatMap psgCs)) ∧ w.grownBy w' none := by
  obtain ⟨px, py⟩ := p
  obtain ⟨qx, qy⟩ := q
  obtain ⟨i0, hi, hz0, hz1, hz2⟩ := info_parts info_psg
  have HI := Lib.hid hi; have HZ0 := Lib.hid hz0; have HZ1 := Lib.hid hz1; have HZ2 := Lib.hid hz2
  have PP := Lib.hid hp; have PQ := Lib.hid hq; have HG := Lib.hid hg; have HS := Lib.hid hs; have HGS := Lib.hid hgs
  clear hi hz0 hz1 hz2 hp hq hg hs hgs
  go_enter Try.func44, Try.ntmps44
  go_wp2_with fail
  have B1 : Hid (((w.alloc (.cells #[.int .i64 px, .int .i64 py] 64)).alloc (.cells #[.int .i64 qx, .int .i64 qy] 64)).heap[w.heap.size]? = some (.cells #[.int .i64 px, .int .i64 py] 64 (0, 0))) := mblock_at (mheap_new w _) (World.grownBy_alloc _ _ none) (by simp)
  have B2 : Hid (((w.alloc (.cells #[.int .i64 px, .int .i64 py] 64)).alloc (.cells #[.int .i64 qx, .int .i64 qy] 64)).heap[w.heap.size + 1]? = some (.cells #[.int .i64 qx, .int .i64 qy] 64 (0, 0))) := by
    have q := mheap_new (w.alloc (.cells #[.int .i64 px, .int .i64 py] 64)) (.cells #[.int .i64 qx, .int .i64 qy] 64)
    rw [show (w.alloc (.cells #[.int .i64 px, .int .i64 py] 64)).heap.size = w.heap.size + 1 from by simp] at q; exact q
  have G1 : Hid (w.grownBy ((w.alloc (.cells #[.int .i64 px, .int .i64 py] 64)).alloc (.cells #[.int .i64 qx, .int .i64 qy] 64)) none) := grown_trans (World.grownBy_alloc _ _ _) (World.grownBy_alloc _ _ _)
  generalize ((w.alloc (.cells #[.int .i64 px, .int .i64 py] 64)).alloc (.cells #[.int .i64 qx, .int .i64 qy] 64)) = w1 at *
  go_loopw [7, 14] (fun lv iv wr => ∃ (k : Nat) (v : Value), v = lv ∧ iv = .int .i64 k ∧ k ≤ gs.length ∧ Hid (w.grownBy wr none) ∧ Hid (wr.ownsRow w.heap.size 85 3 v (passK gs ⟨px, py⟩ ⟨qx, qy⟩ k).length ((passK gs ⟨px, py⟩ ⟨qx, qy⟩ k).flatMap psgCs)) ∧ Hid (wr.heap[w.heap.size]? = some (.cells #[.int .i64 px, .int .i64 py] 64 (0, 0)) ∧ wr.heap[w.heap.size + 1]? = some (.cells #[.int .i64 qx, .int .i64 qy] 64 (0, 0))) ∧ Hid (∀ r, v.ownBlock = some r → w.heap.size + 2 ≤ r)) (fun _ iv _ => gs.length - (intOf iv).toNat)
  case atStart => exact ⟨0, _, rfl, rfl, Nat.zero_le _, G1.out, World.ownsRow_nil _ _ _ _, ⟨B1.out, B2.out⟩, fun r e => by cases e⟩
  case round =>
    obtain ⟨k, v, rfl, rfl, hk, hg, ho, hb, hv⟩ := hrel
    clear G1 B1 B2
    obtain ⟨wo, hwo⟩ : ∃ W : World, W = wr := ⟨_, rfl⟩
    subst hwo
    by_cases hlt : k < gs.length
    · obtain ⟨gb, gof, hgo, qg⟩ := gates_at (HG.out.grown hg.out) (by omega)
      subst hgo
      obtain ⟨c0, c1, c2, c3⟩ := qg k hlt
      have hgm := HGS.out _ (List.getElem_mem hlt)
      rw [← gtD_at hlt] at c0 c1 c2 c3 hgm
      have hin := gate1_in hgm
      have PK : Hid (passK gs ⟨px, py⟩ ⟨qx, qy⟩ (k + 1) = passK gs ⟨px, py⟩ ⟨qx, qy⟩ k ++ pas1 (gtD gs k) k ⟨px, py⟩ ⟨qx, qy⟩) := rfl
      have hlen := passK_len gs ⟨px, py⟩ ⟨qx, qy⟩ k
      have hk0 : (k : Int) < (gs.length : Int) := by omega
      have HLT := Lib.hid hlt; have HGR := Lib.hid hg.out; have HB := Lib.hid hb.out; have HO := Lib.hid ho.out; have HV := Lib.hid hv.out
      clear qg hgm hg hb ho hv
      generalize gtD gs k = g at *
      generalize passK gs ⟨px, py⟩ ⟨qx, qy⟩ k = L at *
      obtain ⟨ax, ay, bx, by_⟩ := g
      simp only at c0 c1 c2 c3 hin
      have PA : Hid (onP (Gt.A ⟨ax, ay, bx, by_⟩)) := hin.1
      have PB : Hid (onP (Gt.B ⟨ax, ay, bx, by_⟩)) := hin.2
      clear hin
      obtain ⟨u, hu⟩ : ∃ n, sideV (Gt.A ⟨ax, ay, bx, by_⟩) (Gt.B ⟨ax, ay, bx, by_⟩) ⟨px, py⟩ = n := ⟨_, rfl⟩
      obtain ⟨z, hz⟩ : ∃ n, sideV (Gt.A ⟨ax, ay, bx, by_⟩) (Gt.B ⟨ax, ay, bx, by_⟩) ⟨qx, qy⟩ = n := ⟨_, rfl⟩
      obtain ⟨m, hm⟩ : ∃ b, metB ⟨ax, ay, bx, by_⟩ ⟨px, py⟩ ⟨qx, qy⟩ = b := ⟨_, rfl⟩
      have hub := sideV_bd PA.out PB.out PP.out; have hzb := sideV_bd PA.out PB.out PQ.out
      rw [hu] at hub; rw [hz] at hzb
      have HU := Lib.hid hu; have HZ := Lib.hid hz; have HM := Lib.hid hm
      have CR : Hid (pas1 ⟨ax, ay, bx, by_⟩ k ⟨px, py⟩ ⟨qx, qy⟩ = if (decide (u < 0) && decide (0 ≤ z) && m) = true then [⟨k, -u, z - u⟩] else []) := by
        show _ = _
        unfold pas1 crosB
        rw [hu, hz, hm]
      clear hu hz hm
      go_wp2_with fail
      clear c0 c1 c2 c3
      have b9 := mheap_new wo (.cells #[.int .i64 ax, .int .i64 ay, .int .i64 bx, .int .i64 by_] 73)
      have gA := World.grownBy_alloc wo (.cells #[.int .i64 ax, .int .i64 ay, .int .i64 bx, .int .i64 by_] 73) none
      have bp := mblock_at HB.out.1 gA (by simp); have bq := mblock_at HB.out.2 gA (by simp)
      have HO1 := Lib.hid (HO.out.kept gA (Classical.em _))
      have G2 := Lib.hid (grown_trans HGR.out gA)
      have NB : Hid (w.heap.size + 2 ≤ wo.heap.size) := by have := lt_of_block HB.out.2; show _ ≤ _; omega
      generalize wo.alloc (.cells #[.int .i64 ax, .int .i64 ay, .int .i64 bx, .int .i64 by_] 73) = w2 at *
      obtain ⟨gx, hgx⟩ : ∃ n, wo.heap.size = n := ⟨_, rfl⟩
      rw [hgx] at b9 NB
      try rw [hgx]
      clear hgx gA HB
      have z0 := mblock_cell b9 0 _ rfl; have z1 := mblock_cell b9 1 _ rfl; have z2 := mblock_cell b9 2 _ rfl; have z3 := mblock_cell b9 3 _ rfl
      have z4 := mblock_cell bp 0 _ rfl; have z5 := mblock_cell bp 1 _ rfl; have z6 := mblock_cell bq 0 _ rfl; have z7 := mblock_cell bq 1 _ rfl
      have B9 := Lib.hid b9; have BP := Lib.hid bp; have BQ := Lib.hid bq
      clear b9 bp bq
      have gW : w2.grownBy w2.drew none := grown_drewN w2 none 1
      refine region_late (lateK (fun V => w2.grownBy V none) []) (by kernel_rfl) gW (fun hCp0 hSp0 => ?_)
      generalize w2.drew = wd at *
      refine wpAnyS_take (i := 0) (oi := ?oip1) (v := .pointer (some ⟨gx, 0, none⟩)) ?hip1 (by kernel_rfl) (by kernel_rfl) (by kernel_rfl) (lateK_iff (by rfl)) ?hqp1 ?hyp1 hCp0 hSp0 ?restp1
      case hip1 => simp only [List.getElem?_toArray, List.getElem?_cons_succ, List.getElem?_cons_zero, Option.some.injEq]; rfl
      case hqp1 => exact fun _ _ _ h => h
      case hyp1 =>
        refine Or.inl ⟨by kernel_rfl, fun V hV => ?_⟩
        clear hV
        go_simp
      intro hCp1 hSp1
      clear hCp0 hSp0
      try simp only [Go.Act.put, List.setIfInBounds_toArray, List.set_cons_zero, List.set_cons_succ]
      refine wpAnyS_take (i := 1) (oi := ?oip2) (v := .agg #[.int .i64 ax, .int .i64 ay]) ?hip2 (by kernel_rfl) (by kernel_rfl) (by kernel_rfl) (lateK_iff (by rfl)) ?hqp2 ?hyp2 hCp1 hSp1 ?restp2
      case hip2 => simp only [List.getElem?_toArray, List.getElem?_cons_succ, List.getElem?_cons_zero, Option.some.injEq]; rfl
      case hqp2 => exact fun _ _ _ h => h
      case hyp2 =>
        refine Or.inl ⟨by kernel_rfl, fun V hV => ?_⟩
        have gV := lateK_g hV; have y0 := grown_cell gV z0; have y1 := grown_cell gV z1; clear gV; clear hV
        go_simp
      intro hCp2 hSp2
      clear hCp1 hSp1
      try simp only [Go.Act.put, List.setIfInBounds_toArray, List.set_cons_zero, List.set_cons_succ]
      refine wpAnyS_take (i := 2) (oi := ?oip3) (v := .pointer (some ⟨gx, 2, none⟩)) ?hip3 (by kernel_rfl) (by kernel_rfl) (by kernel_rfl) (lateK_iff (by rfl)) ?hqp3 ?hyp3 hCp2 hSp2 ?restp3
      case hip3 => simp only [List.getElem?_toArray, List.getElem?_cons_succ, List.getElem?_cons_zero, Option.some.injEq]; rfl
      case hqp3 => exact fun _ _ _ h => h
      case hyp3 =>
        refine Or.inl ⟨by kernel_rfl, fun V hV => ?_⟩
        clear hV
        go_simp
      intro hCp3 hSp3
      clear hCp2 hSp2
      try simp only [Go.Act.put, List.setIfInBounds_toArray, List.set_cons_zero, List.set_cons_succ]
      refine wpAnyS_take (i := 3) (oi := ?oip4) (v := .agg #[.int .i64 bx, .int .i64 by_]) ?hip4 (by kernel_rfl) (by kernel_rfl) (by kernel_rfl) (lateK_iff (by rfl)) ?hqp4 ?hyp4 hCp3 hSp3 ?restp4
      case hip4 => simp only [List.getElem?_toArray, List.getElem?_cons_succ, List.getElem?_cons_zero, Option.some.injEq]; rfl
      case hqp4 => exact fun _ _ _ h => h
      case hyp4 =>
        refine Or.inl ⟨by kernel_rfl, fun V hV => ?_⟩
        have gV := lateK_g hV; have y2 := grown_cell gV z2; have y3 := grown_cell gV z3; clear gV; clear hV
        go_simp
      intro hCp4 hSp4
      clear hCp3 hSp3
      try simp only [Go.Act.put, List.setIfInBounds_toArray, List.set_cons_zero, List.set_cons_succ]
      refine wpAnyS_take (i := 4) (oi := ?oip5) (v := .agg #[.int .i64 px, .int .i64 py]) ?hip5 (by kernel_rfl) (by kernel_rfl) (by kernel_rfl) (lateK_iff (by rfl)) ?hqp5 ?hyp5 hCp4 hSp4 ?restp5
      case hip5 => simp only [List.getElem?_toArray, List.getElem?_cons_succ, List.getElem?_cons_zero, Option.some.injEq]; rfl
      case hqp5 => exact fun _ _ _ h => h
      case hyp5 =>
        refine Or.inl ⟨by kernel_rfl, fun V hV => ?_⟩
        have gV := lateK_g hV; have y4 := grown_cell gV z4; have y5 := grown_cell gV z5; clear gV; clear hV
        go_simp
      intro hCp5 hSp5
      clear hCp4 hSp4
      try simp only [Go.Act.put, List.setIfInBounds_toArray, List.set_cons_zero, List.set_cons_succ]
      refine wpAnyS_take (i := 6) (oi := ?oip6) (v := .pointer (some ⟨gx, 0, none⟩)) ?hip6 (by kernel_rfl) (by kernel_rfl) (by kernel_rfl) (lateK_iff (by rfl)) ?hqp6 ?hyp6 hCp5 hSp5 ?restp6
      case hip6 => simp only [List.getElem?_toArray, List.getElem?_cons_succ, List.getElem?_cons_zero, Option.some.injEq]; rfl
      case hqp6 => exact fun _ _ _ h => h
      case hyp6 =>
        refine Or.inl ⟨by kernel_rfl, fun V hV => ?_⟩
        clear hV
        go_simp
      intro hCp6 hSp6
      clear hCp5 hSp5
      try simp only [Go.Act.put, List.setIfInBounds_toArray, List.set_cons_zero, List.set_cons_succ]
      refine wpAnyS_take (i := 7) (oi := ?oip7) (v := .agg #[.int .i64 ax, .int .i64 ay]) ?hip7 (by kernel_rfl) (by kernel_rfl) (by kernel_rfl) (lateK_iff (by rfl)) ?hqp7 ?hyp7 hCp6 hSp6 ?restp7
      case hip7 => simp only [List.getElem?_toArray, List.getElem?_cons_succ, List.getElem?_cons_zero, Option.some.injEq]; rfl
      case hqp7 => exact fun _ _ _ h => h
      case hyp7 =>
        refine Or.inl ⟨by kernel_rfl, fun V hV => ?_⟩
        have gV := lateK_g hV; have y0 := grown_cell gV z0; have y1 := grown_cell gV z1; clear gV; clear hV
        go_simp
      intro hCp7 hSp7
      clear hCp6 hSp6
      try simp only [Go.Act.put, List.setIfInBounds_toArray, List.set_cons_zero, List.set_cons_succ]
      refine wpAnyS_take (i := 8) (oi := ?oip8) (v := .pointer (some ⟨gx, 2, none⟩)) ?hip8 (by kernel_rfl) (by kernel_rfl) (by kernel_rfl) (lateK_iff (by rfl)) ?hqp8 ?hyp8 hCp7 hSp7 ?restp8
      case hip8 => simp only [List.getElem?_toArray, List.getElem?_cons_succ, List.getElem?_cons_zero, Option.some.injEq]; rfl
      case hqp8 => exact fun _ _ _ h => h
      case hyp8 =>
        refine Or.inl ⟨by kernel_rfl, fun V hV => ?_⟩
        clear hV
        go_simp
      intro hCp8 hSp8
      clear hCp7 hSp7
      try simp only [Go.Act.put, List.setIfInBounds_toArray, List.set_cons_zero, List.set_cons_succ]
      refine wpAnyS_take (i := 9) (oi := ?oip9) (v := .agg #[.int .i64 bx, .int .i64 by_]) ?hip9 (by kernel_rfl) (by kernel_rfl) (by kernel_rfl) (lateK_iff (by rfl)) ?hqp9 ?hyp9 hCp8 hSp8 ?restp9
      case hip9 => simp only [List.getElem?_toArray, List.getElem?_cons_succ, List.getElem?_cons_zero, Option.some.injEq]; rfl
      case hqp9 => exact fun _ _ _ h => h
      case hyp9 =>
        refine Or.inl ⟨by kernel_rfl, fun V hV => ?_⟩
        have gV := lateK_g hV; have y2 := grown_cell gV z2; have y3 := grown_cell gV z3; clear gV; clear hV
        go_simp
      intro hCp9 hSp9
      clear hCp8 hSp8
      try simp only [Go.Act.put, List.setIfInBounds_toArray, List.set_cons_zero, List.set_cons_succ]
      refine wpAnyS_take (i := 10) (oi := ?oip10) (v := .agg #[.int .i64 qx, .int .i64 qy]) ?hip10 (by kernel_rfl) (by kernel_rfl) (by kernel_rfl) (lateK_iff (by rfl)) ?hqp10 ?hyp10 hCp9 hSp9 ?restp10
      case hip10 => simp only [List.getElem?_toArray, List.getElem?_cons_succ, List.getElem?_cons_zero, Option.some.injEq]; rfl
      case hqp10 => exact fun _ _ _ h => h
      case hyp10 =>
        refine Or.inl ⟨by kernel_rfl, fun V hV => ?_⟩
        have gV := lateK_g hV; have y6 := grown_cell gV z6; have y7 := grown_cell gV z7; clear gV; clear hV
        go_simp
      intro hCp10 hSp10
      clear hCp9 hSp9
      try simp only [Go.Act.put, List.setIfInBounds_toArray, List.set_cons_zero, List.set_cons_succ]
      refine wpAnyS_ready (rs := [5]) (by kernel_rfl) (by simp) ?_
      refine AllReadyS.cons rfl hCp10 (fun K hK => ?_) AllReadyS.nil
      go_simp
      refine (sideOf_is ⟨ax, ay⟩ ⟨bx, by_⟩ ⟨px, py⟩ PA.out PB.out PP.out _ HU).mono ?_; rintro e w7 ⟨rfl, hg7⟩
      refine hK.out _ _ (grown_trans gW hg7) (fun hCp11 hSp11 => ?_)
      clear hK hCp10 hSp10 K
      try simp only [Go.Act.put, List.setIfInBounds_toArray, List.set_cons_zero, List.set_cons_succ]
      refine wpAnyS_ready (rs := [11]) (by kernel_rfl) (by simp) ?_
      refine AllReadyS.cons rfl hCp11 (fun K hK => ?_) AllReadyS.nil
      go_simp
      refine (sideOf_is ⟨ax, ay⟩ ⟨bx, by_⟩ ⟨qx, qy⟩ PA.out PB.out PQ.out _ HZ).mono ?_; rintro e w8 ⟨rfl, hg8⟩
      refine hK.out _ _ (grown_trans (grown_trans gW hg7) hg8) (fun hCp12 hSp12 => ?_)
      clear hK hCp11 hSp11 K
      try simp only [Go.Act.put, List.setIfInBounds_toArray, List.set_cons_zero, List.set_cons_succ]
      refine wpAnyS_take (i := 12) (oi := ?oip13) (v := .int .i64 u) ?hip13 (by kernel_rfl) (by kernel_rfl) (by kernel_rfl) (lateK_iff (by rfl)) ?hqp13 ?hyp13 hCp12 hSp12 ?restp13
      case hip13 => simp only [List.getElem?_toArray, List.getElem?_cons_succ, List.getElem?_cons_zero, Option.some.injEq]; rfl
      case hqp13 => exact fun _ _ _ h => h
      case hyp13 =>
        refine Or.inl ⟨by kernel_rfl, fun V hV => ?_⟩
        clear hV
        go_simp
      intro hCp13 hSp13
      clear hCp12 hSp12
      try simp only [Go.Act.put, List.setIfInBounds_toArray, List.set_cons_zero, List.set_cons_succ]
      refine wpAnyS_take (i := 13) (oi := ?oip14) (v := .int .i64 z) ?hip14 (by kernel_rfl) (by kernel_rfl) (by kernel_rfl) (lateK_iff (by rfl)) ?hqp14 ?hyp14 hCp13 hSp13 ?restp14
      case hip14 => simp only [List.getElem?_toArray, List.getElem?_cons_succ, List.getElem?_cons_zero, Option.some.injEq]; rfl
      case hqp14 => exact fun _ _ _ h => h
      case hyp14 =>
        refine Or.inl ⟨by kernel_rfl, fun V hV => ?_⟩
        clear hV
        go_simp
      intro hCp14 hSp14
      clear hCp13 hSp13
      try simp only [Go.Act.put, List.setIfInBounds_toArray, List.set_cons_zero, List.set_cons_succ]
      refine wpAnyS_done (by kernel_rfl) ?_ _
      clear hCp14 hSp14
      have g8 := grown_trans (grown_trans gW hg7) hg8
      have HO2 := Lib.hid (HO1.out.kept g8 (Classical.em _))
      have G3 := Lib.hid (grown_trans G2.out g8)
      have b9 := mblock_at B9.out g8 (by simp); have bp := mblock_at BP.out g8 (by simp); have bq := mblock_at BQ.out g8 (by simp)
      clear z0 z1 z2 z3 z4 z5 z6 z7 gW hg7 hg8 g8 HO1 G2 B9 BP BQ HO HGR
      by_cases d1 : u < 0
      · have e1 : decide (u < 0) = true := decide_eq_true (by omega)
        by_cases d2 : 0 ≤ z
        · have e2 : decide (0 ≤ z) = true := decide_eq_true (by omega)
          have z0 := mblock_cell b9 0 _ rfl; have z1 := mblock_cell b9 1 _ rfl; have z2 := mblock_cell b9 2 _ rfl; have z3 := mblock_cell b9 3 _ rfl
          have z4 := mblock_cell bp 0 _ rfl; have z5 := mblock_cell bp 1 _ rfl; have z6 := mblock_cell bq 0 _ rfl; have z7 := mblock_cell bq 1 _ rfl
          have BP := Lib.hid bp; have BQ := Lib.hid bq
          clear bp bq b9
          go_wp2_with fail
          refine (isMet_is ⟨ax, ay, bx, by_⟩ ⟨px, py⟩ ⟨qx, qy⟩ PA.out PB.out PP.out PQ.out _ HM).mono ?_; rintro e w9 ⟨rfl, hg9⟩
          have HO3 := Lib.hid (HO2.out.kept hg9 (Classical.em _))
          have G4 := Lib.hid (grown_trans G3.out hg9)
          have BP2 := Lib.hid (mblock_at BP.out hg9 (by simp)); have BQ2 := Lib.hid (mblock_at BQ.out hg9 (by simp))
          clear hg9 z0 z1 z2 z3 z4 z5 z6 z7 HO2 G3 BP BQ
          cases m with
          | true =>
            have r1 : IntKind.i64.wrap (-u) = -u := IntWalk.i64_in _ (by omega)
            have r2 : IntKind.i64.wrap (z - u) = z - u := IntWalk.i64_in _ (by omega)
            have PE : Hid (passK gs ⟨px, py⟩ ⟨qx, qy⟩ (k + 1) = L ++ [⟨k, -u, z - u⟩]) := by
              show _ = _
              rw [PK.out, CR.out, if_pos (by first | (simp; done) | (simp; omega))]
            have hi := HI.out; have hz0 := HZ0.out; have hz1 := HZ1.out; have hz2 := HZ2.out
            have HSZ : Hid (w.heap.size ≤ w9.heap.size) := G4.out.size
            generalize hx1 : -u = x1 at *
            generalize hx2 : z - u = x2 at *
            clear d1 d2 e1 e2 hub hzb
            go_wp2_with (at_builtin; refine wpList_append_own_at _ rfl _ _ 81 rfl w.heap.size 85 i0 (.agg #[.int .i64 0, .int .i64 0, .int .i64 0]) 3 24 Try.underlying81 hi hz0 hz1 hz2 rfl (by decide) v L.length _ rfl (HO3.out.alloc _) ⟨w9.heap.size, 0, none⟩ 1 1 [.int .i64 k, .int .i64 x1, .int .i64 x2] rfl rfl (World.news_of_block (cs := #[.int .i64 k, .int .i64 x1, .int .i64 x2]) (t := 85) (fr := (0, 0)) (heap_alloc_new w9 _)) (by simp [Value.oneCell']) (by unfold maxLen; omega) (by omega) (by have := HSZ.out; simp; omega) ?_; intro v' w10 hown' hgrow' _ hat')
            have gA := World.grownBy_alloc w9 (.cells #[.int .i64 k, .int .i64 x1, .int .i64 x2] 85) none
            have HV4 : Hid (∀ r, v'.ownBlock = some r → w.heap.size + 2 ≤ r) := fun r e => by
              rcases hat' with h | h
              · rw [h] at e; exact HV.out r e
              · rw [h] at e; injection e with e; have := lt_of_block BQ2.out; simp at e; omega
            have G5 := Lib.hid (mgrown_row (grown_trans G4.out gA) hgrow' (fun r e => by have := HV.out r e; omega))
            have BP3 := Lib.hid (mblock_at (mblock_at BP2.out gA (by simp)) hgrow' (fun e => by have := HV.out _ e.symm; omega))
            have BQ3 := Lib.hid (mblock_at (mblock_at BQ2.out gA (by simp)) hgrow' (fun e => by have := HV.out _ e.symm; omega))
            have HO4 : Hid (w10.ownsRow w.heap.size 85 3 v' (passK gs ⟨px, py⟩ ⟨qx, qy⟩ (k + 1)).length ((passK gs ⟨px, py⟩ ⟨qx, qy⟩ (k + 1)).flatMap psgCs)) := by
              show World.ownsRow _ _ _ _ _ _ _
              rw [PE.out, mflat_snoc, List.length_append]; exact hown'
            clear hown' hgrow' hat' gA hi hz0 hz1 hz2
            go_wp2_with fail
            go_roundw
            case rel => exact ⟨k + 1, v', rfl, by go_num, HLT.out, G5.out, HO4.out, ⟨BP3.out, BQ3.out⟩, HV4.out⟩
            case measure => have := HLT.out; simp [intOf]; omega
          | false =>
            have PE : Hid (passK gs ⟨px, py⟩ ⟨qx, qy⟩ (k + 1) = L) := by
              show _ = _
              rw [PK.out, CR.out, if_neg (by first | (simp; done) | (simp; omega))]; simp
            go_wp2_with fail
            go_roundw
            case rel =>
              refine ⟨k + 1, v, rfl, by go_num, HLT.out, G4.out, ?_, ?_, HV.out⟩
              · rw [PE.out]; exact HO3.out
              · exact ⟨BP2.out, BQ2.out⟩
            case measure => have := HLT.out; simp [intOf]; omega
        · have e2 : decide (0 ≤ z) = false := decide_eq_false (by omega)
          have PE : Hid (passK gs ⟨px, py⟩ ⟨qx, qy⟩ (k + 1) = L) := by
            show _ = _
            rw [PK.out, CR.out, if_neg (by first | (simp; done) | (simp; omega))]; simp
          go_wp2_with fail
          go_roundw
          case rel =>
            refine ⟨k + 1, v, rfl, by go_num, HLT.out, G3.out, ?_, ?_, HV.out⟩
            · rw [PE.out]; exact HO2.out
            · exact ⟨bp, bq⟩
          case measure => have := HLT.out; simp [intOf]; omega
      · have e1 : decide (u < 0) = false := decide_eq_false (by omega)
        have PE : Hid (passK gs ⟨px, py⟩ ⟨qx, qy⟩ (k + 1) = L) := by
          show _ = _
          rw [PK.out, CR.out, if_neg (by first | (simp; done) | (simp; omega))]; simp
        go_wp2_with fail
        go_roundw
        case rel =>
          refine ⟨k + 1, v, rfl, by go_num, HLT.out, G3.out, ?_, ?_, HV.out⟩
          · rw [PE.out]; exact HO2.out
          · exact ⟨bp, bq⟩
        case measure => have := HLT.out; simp [intOf]; omega
    · obtain rfl : k = gs.length := by omega
      have HGR := Lib.hid hg.out
      have HV := Lib.hid hv.out
      have KS := Lib.hid (HS.out wo w.heap.size v ho.out)
      clear hg hb ho hv hlt
      go_wp2_with fail
      refine KS.out.mono ?_; rintro e w3 ⟨rfl, ho3, hg3⟩
      have G5 := Lib.hid (mgrown_row HGR.out hg3 (fun r e => by have := HV.out r e; omega))
      have HO3 := Lib.hid ho3
      clear ho3 hg3
      go_wp2_with fail
      go_ret
      exact ⟨⟨_, rfl, HO3.out⟩, G5.out⟩
end Go.Proofs.Ytckelojdjmaliaa
