/-
  Ours: the statements' sameBatch, sameOps, SameBytes, own (gen_lbsam.py: THE SEAT's OWN NUMBERS).
-/
import Derived.Test.YtnjpmihffenkcaaDoorLbOps
import Derived.Test.YtnjpmihffenkcaaDoorLbOwn
import Derived.Deep.QuietTactic
import Derived.BigQuiet
import Derived.Deep.RegionHeld
import Derived.Deep.MidRow
import Derived.Laws.StructEq
import Derived.DeepKeys
namespace Go.Proofs.YtnjpmihffenkcaaDoor
open Go.RowKit LbM LbF
set_option linter.unusedSimpArgs false
theorem neq_item (x : It) (w : World) : (binOp .neq 43 (.agg (itL x).toArray) (.agg (itL x).toArray)).run Tryd.prog w = .ok (.bool false) w := by
  have e1 : (x.ln == x.ln) = true := by simp
  have e2 : (x.am == x.am) = true := by simp
  go_simp
theorem neq_op (num : Int) (i : Nat) (x : It) (w : World) : (binOp .neq 35 (.agg (opl num i x).toArray) (.agg (opl num i x).toArray)).run Tryd.prog w = .ok (.bool false) w := by
  have e1 : (x.ln == x.ln) = true := by simp
  have e2 : (x.am == x.am) = true := by simp
  have e3 : (num * 10000 + (i : Int) + 1 == num * 10000 + (i : Int) + 1) = true := by simp
  go_simp
theorem yieldsIf_neqS {ops : Array Oper} {S : World → Prop} {op : Oper} {a : Act} (hw : Region.wanted op (yielded ops a.tmps) = true) (t t' : TypeId) (x y : Operand) (ho : op.op = .binOp .neq t x y t') (X : List Value) (hx : a.eval x = .agg X.toArray) (hy : a.eval y = .agg X.toArray)
    (hg : Tryd.prog.eqGuardType Tryd.prog.depth t = false) (he : ∀ w, (binOp .neq t (.agg X.toArray) (.agg X.toArray)).run Tryd.prog w = .ok (.bool false) w) : YieldsIf Tryd.prog ops S op (.bool false) a := .inl ⟨hw, fun w _ => by
  unfold execOp
  simp only [ho, hx, hy, Sem.run_bind, run_eqGuard_agg w _ _ _ _ _ _ hg, Result.andThen_ok, he w, Sem.run_pure]⟩
theorem RdI.at {w : World} {a : Option Addr} {n c : Nat} {its : List It} (h : RdI w (.slice a n c) its) {i : Nat} {x : It} (hi : its[i]? = some x) : ∃ g o, a = some ⟨g, o, none⟩ ∧ g < w.heap.size ∧ w.rangeAt g (o + i * 2) (itL x) := by
  obtain ⟨ao, cap, e, -, -, H⟩ := h
  injection e with e _ _
  subst e
  exact H i x hi
theorem RdI.len {w : World} {v : Value} {its : List It} (h : RdI w v its) : ∃ a c, v = .slice a its.length c := by
  obtain ⟨a, c, e, _⟩ := h
  exact ⟨a, c, e⟩
set_option maxRecDepth 20000 in
set_option maxHeartbeats 4000000 in
theorem sameBatch_yes (b : Bt) (v v' : Value) (w : World) (hl : b.its.length ≤ 1000000000) (h : RdI w v b.its) (h' : RdI w v' b.its) : Calls Tryd.prog 11 #[btV b v, btV b v'] w fun e w' => e = .returned (.bool true) ∧ Below w.heap.size w w' := by
  have W0 : Hid (Blk w.heap.size 24 (btL b v) ((w.alloc (.cells #[.int .i64 b.day, .int .i64 b.num, v] 24)).alloc (.cells #[.int .i64 b.day, .int .i64 b.num, v'] 24)) ∧ Blk (w.heap.size + 1) 24 (btL b v') ((w.alloc (.cells #[.int .i64 b.day, .int .i64 b.num, v] 24)).alloc (.cells #[.int .i64 b.day, .int .i64 b.num, v'] 24)) ∧ Below w.heap.size w ((w.alloc (.cells #[.int .i64 b.day, .int .i64 b.num, v] 24)).alloc (.cells #[.int .i64 b.day, .int .i64 b.num, v'] 24))) :=
    ⟨(Blk.new 24 (btL b v) w).old _, Blk.new2 24 (btL b v') w _, below_trans (below_alloc w _) (below_alloc _ _)⟩
  have R1 : Hid (∀ w', Below w.heap.size w w' → RdI w' v b.its ∧ RdI w' v' b.its) := fun w' q => ⟨h.later q, h'.later q⟩
  obtain ⟨ao, cap, rfl⟩ := h.len
  obtain ⟨ao', cap', rfl⟩ := h'.len
  obtain ⟨day, num, its⟩ := b
  simp only at *
  have e1 : (day != day) = false := by simp
  have e2 : (num != num) = false := by simp
  obtain ⟨L, hL⟩ : ∃ L, its.length = L := ⟨_, rfl⟩
  have e3 : ((L : Int) != (L : Int)) = false := by simp
  have GI : Hid (∀ i, i < L → ∃ x, its[i]? = some x) := fun i hi => ⟨_, List.getElem?_eq_getElem (by omega)⟩
  simp only [hL] at *
  clear h h' hL
  go_enter Tryd.func11, Tryd.ntmps11
  go_upto_region 1 with fail
  generalize ((w.alloc (.cells #[.int .i64 day, .int .i64 num, .slice ao L cap] 24)).alloc (.cells #[.int .i64 day, .int .i64 num, .slice ao' L cap'] 24)) = w1 at *
  have c0 := W0.out.1.cell 0 _ rfl
  have c1 := W0.out.1.cell 1 _ rfl
  have c2 := W0.out.1.cell 2 _ rfl
  have d0 := W0.out.2.1.cell 0 _ rfl
  have d1 := W0.out.2.1.cell 1 _ rfl
  have d2 := W0.out.2.1.cell 2 _ rfl
  go_wp2_with fail
  go_loopw [5] (fun vk wr => ∃ k : Nat, vk = .int .i64 (k : Int) ∧ k ≤ L ∧ Hid (Blk w.heap.size 24 [.int .i64 day, .int .i64 num, .slice ao L cap] wr ∧ Blk (w.heap.size + 1) 24 [.int .i64 day, .int .i64 num, .slice ao' L cap'] wr ∧ Below w.heap.size w wr)) (fun vk _ => L - (intOf vk).toNat)
  case atStart => exact ⟨0, rfl, by omega, W0.out⟩
  case round =>
    obtain ⟨k, rfl, hk, HR⟩ := hrel
    clear W0 c0 c1 c2 d0 d1 d2
    have c2 := HR.out.1.cell 2 _ rfl
    have d2 := HR.out.2.1.cell 2 _ rfl
    by_cases hlt : (k : Int) < (L : Int)
    · obtain ⟨x, hx⟩ := GI.out k (by omega)
      obtain ⟨g, o, rfl, -, rg⟩ := (R1.out wr HR.out.2.2).1.at hx
      obtain ⟨g', o', rfl, -, rg'⟩ := (R1.out wr HR.out.2.2).2.at hx
      obtain ⟨xl, xa⟩ := x
      have CC : Hid (wr.drew.cell? ⟨w.heap.size, 2, none⟩ = some (.slice (some ⟨g, o, none⟩) L cap) ∧ wr.drew.cell? ⟨w.heap.size + 1, 2, none⟩ = some (.slice (some ⟨g', o', none⟩) L cap') ∧ wr.drew.rangeAt g (o + k * 2) (itL ⟨xl, xa⟩) ∧ wr.drew.rangeAt g' (o' + k * 2) (itL ⟨xl, xa⟩)) := ⟨c2, d2, rg, rg'⟩
      clear rg rg' hx
      go_upto_region 6 with fail
      refine wp_region_held_drew (S := fun w' => w'.cell? ⟨w.heap.size, 2, none⟩ = some (.slice (some ⟨g, o, none⟩) L cap) ∧ w'.cell? ⟨w.heap.size + 1, 2, none⟩ = some (.slice (some ⟨g', o', none⟩) L cap') ∧ w'.rangeAt g (o + k * 2) (itL ⟨xl, xa⟩) ∧ w'.rangeAt g' (o' + k * 2) (itL ⟨xl, xa⟩)) (by kernel_rfl) (CC.out) (fun hH => ?_)
      refine wpAnyH_take (i := 0) (oi := { dst := some 34, op := Op.fieldAddr 24 (Operand.tmp 2) 2, type := 0, pos := "law.go:26", after := #[], guard := none }) (v := .pointer (some ⟨w.heap.size, 2, none⟩)) rfl (by kernel_rfl) (by kernel_rfl) (by kernel_rfl) (fun _ _ _ h => h) (Or.inl ⟨by rfl, fun w' hs => by go_simp⟩) hH ?_
      try simp only [Act.put, List.setIfInBounds_toArray, List.set_cons_zero, List.set_cons_succ]
      refine wpAnyH_take (i := 1) (oi := { dst := some 35, op := Op.load 22 (Operand.tmp 34), type := 22, pos := "law.go:26", after := #[{ on := 0, ground := Ground.data }], guard := none }) (v := .slice (some ⟨g, o, none⟩) L cap) rfl (by kernel_rfl) (by kernel_rfl) (by kernel_rfl) (fun _ _ _ h => h) (Or.inl ⟨by rfl, fun w' hs => by have c := hs.1; go_simp⟩) hH ?_
      try simp only [Act.put, List.setIfInBounds_toArray, List.set_cons_zero, List.set_cons_succ]
      refine wpAnyH_take (i := 2) (oi := { dst := some 36, op := Op.move (Operand.tmp 5), type := 3, pos := "law.go:26", after := #[], guard := none }) (v := .int .i64 (k : Int)) rfl (by kernel_rfl) (by kernel_rfl) (by kernel_rfl) (fun _ _ _ h => h) (Or.inl ⟨by rfl, fun w' hs => by go_simp⟩) hH ?_
      try simp only [Act.put, List.setIfInBounds_toArray, List.set_cons_zero, List.set_cons_succ]
      refine wpAnyH_take (i := 3) (oi := { dst := some 37, op := Op.indexAddr 22 (Operand.tmp 35) (Operand.tmp 36), type := 0, pos := "law.go:26", after := #[{ on := 1, ground := Ground.data }, { on := 2, ground := Ground.data }], guard := none }) (v := .pointer (some ⟨g, o + k * 2, none⟩)) rfl (by kernel_rfl) (by kernel_rfl) (by kernel_rfl) (fun _ _ _ h => h) (Or.inl ⟨by rfl, fun w' hs => by go_simp⟩) hH ?_
      try simp only [Act.put, List.setIfInBounds_toArray, List.set_cons_zero, List.set_cons_succ]
      refine wpAnyH_take (i := 4) (oi := { dst := some 38, op := Op.load 43 (Operand.tmp 37), type := 43, pos := "law.go:26", after := #[{ on := 3, ground := Ground.data }], guard := none }) (v := .agg ((itL ⟨xl, xa⟩) : List Value).toArray) rfl (by kernel_rfl) (by kernel_rfl) (by kernel_rfl) (fun _ _ _ h => h) (yieldsIf_load_mid (by rfl) _ _ rfl _ (o + k * 2) rfl ((itL ⟨xl, xa⟩)) _ (fun w' h => h.2.2.1) Tryd.underlying43 rfl (sizeIt _)) hH ?_
      try simp only [Act.put, List.setIfInBounds_toArray, List.set_cons_zero, List.set_cons_succ]
      refine wpAnyH_take (i := 5) (oi := { dst := some 39, op := Op.fieldAddr 24 (Operand.tmp 3) 2, type := 0, pos := "law.go:26", after := #[], guard := none }) (v := .pointer (some ⟨w.heap.size + 1, 2, none⟩)) rfl (by kernel_rfl) (by kernel_rfl) (by kernel_rfl) (fun _ _ _ h => h) (Or.inl ⟨by rfl, fun w' hs => by go_simp⟩) hH ?_
      try simp only [Act.put, List.setIfInBounds_toArray, List.set_cons_zero, List.set_cons_succ]
      refine wpAnyH_take (i := 6) (oi := { dst := some 40, op := Op.load 22 (Operand.tmp 39), type := 22, pos := "law.go:26", after := #[{ on := 5, ground := Ground.data }], guard := none }) (v := .slice (some ⟨g', o', none⟩) L cap') rfl (by kernel_rfl) (by kernel_rfl) (by kernel_rfl) (fun _ _ _ h => h) (Or.inl ⟨by rfl, fun w' hs => by have c := hs.2.1; go_simp⟩) hH ?_
      try simp only [Act.put, List.setIfInBounds_toArray, List.set_cons_zero, List.set_cons_succ]
      refine wpAnyH_take (i := 7) (oi := { dst := some 41, op := Op.move (Operand.tmp 5), type := 3, pos := "law.go:26", after := #[], guard := none }) (v := .int .i64 (k : Int)) rfl (by kernel_rfl) (by kernel_rfl) (by kernel_rfl) (fun _ _ _ h => h) (Or.inl ⟨by rfl, fun w' hs => by go_simp⟩) hH ?_
      try simp only [Act.put, List.setIfInBounds_toArray, List.set_cons_zero, List.set_cons_succ]
      refine wpAnyH_take (i := 8) (oi := { dst := some 42, op := Op.indexAddr 22 (Operand.tmp 40) (Operand.tmp 41), type := 0, pos := "law.go:26", after := #[{ on := 6, ground := Ground.data }, { on := 7, ground := Ground.data }], guard := none }) (v := .pointer (some ⟨g', o' + k * 2, none⟩)) rfl (by kernel_rfl) (by kernel_rfl) (by kernel_rfl) (fun _ _ _ h => h) (Or.inl ⟨by rfl, fun w' hs => by go_simp⟩) hH ?_
      try simp only [Act.put, List.setIfInBounds_toArray, List.set_cons_zero, List.set_cons_succ]
      refine wpAnyH_take (i := 9) (oi := { dst := some 43, op := Op.load 43 (Operand.tmp 42), type := 43, pos := "law.go:26", after := #[{ on := 8, ground := Ground.data }], guard := none }) (v := .agg ((itL ⟨xl, xa⟩) : List Value).toArray) rfl (by kernel_rfl) (by kernel_rfl) (by kernel_rfl) (fun _ _ _ h => h) (yieldsIf_load_mid (by rfl) _ _ rfl _ (o' + k * 2) rfl ((itL ⟨xl, xa⟩)) _ (fun w' h => h.2.2.2) Tryd.underlying43 rfl (sizeIt _)) hH ?_
      try simp only [Act.put, List.setIfInBounds_toArray, List.set_cons_zero, List.set_cons_succ]
      refine wpAnyH_take (i := 10) (oi := { dst := some 44, op := Op.binOp BinOp.neq 43 (Operand.tmp 38) (Operand.tmp 43) 43, type := 4, pos := "law.go:26", after := #[{ on := 4, ground := Ground.data }, { on := 9, ground := Ground.data }], guard := none }) (v := .bool false) rfl (by kernel_rfl) (by kernel_rfl) (by kernel_rfl) (fun _ _ _ h => h) (yieldsIf_neqS (by rfl) 43 43 _ _ rfl (itL ⟨xl, xa⟩) rfl rfl (by kernel_rfl) (neq_item _)) hH ?_
      try simp only [Act.put, List.setIfInBounds_toArray, List.set_cons_zero, List.set_cons_succ]
      refine wpAnyH_done (by kernel_rfl) ?_ _
      clear hH
      have R5 : Hid (Blk w.heap.size 24 [.int .i64 day, .int .i64 num, .slice (some ⟨g, o, none⟩) L cap] wr.drew ∧ Blk (w.heap.size + 1) 24 [.int .i64 day, .int .i64 num, .slice (some ⟨g', o', none⟩) L cap'] wr.drew ∧ Below w.heap.size w wr.drew) := ⟨HR.out.1.drewN 1, HR.out.2.1.drewN 1, below_drewN HR.out.2.2 1⟩
      clear HR CC c2 d2
      generalize wr.drew = w5 at *
      go_wp2_with fail
      go_roundw
      case rel => exact ⟨k + 1, by go_num, by omega, R5⟩
      case measure => simp [intOf]; omega
    · obtain rfl : k = L := by omega
      go_wp2_with fail
      go_ret
      exact ⟨rfl, HR.out.2.2⟩
/-- The slice value v reads as these cells, k to an entry. -/
def RdK (k : Nat) (w : World) (v : Value) (n : Nat) (cs : List Value) : Prop := ∃ ao cap, v = .slice ao n cap ∧ ∀ i, i < n → ∃ g o, ao = some ⟨g, o, none⟩ ∧ g < w.heap.size ∧ w.rangeAt g (o + i * k) ((cs.drop (i * k)).take k)
theorem RdK.later {k n : Nat} {w w' : World} {v : Value} {cs : List Value} (h : RdK k w v n cs) (hb : Below w.heap.size w w') : RdK k w' v n cs := by
  obtain ⟨ao, cap, rfl, H⟩ := h
  refine ⟨ao, cap, rfl, fun i hi => ?_⟩
  obtain ⟨g, o, e, lt, r⟩ := H i hi
  exact ⟨g, o, e, Nat.lt_of_lt_of_le lt hb.size, range_later r lt hb⟩
theorem RdK.of_blk {k n g : Nat} {ty : TypeId} {w : World} {cs : List Value} (h : Blk g ty cs w) : RdK k w (.slice (some ⟨g, 0, none⟩) n n) n cs :=
  ⟨_, _, rfl, fun i _ => ⟨g, 0, rfl, h.lt, by rw [Nat.zero_add]; exact h.range (i * k) k⟩⟩
theorem RdK.of_own {base k n : Nat} {ty : TypeId} {w : World} {v : Value} {cs : List Value} (h : w.ownsRow base ty k v n cs) : RdK k w v n cs := by
  rcases h.2 with ⟨rfl, rfl⟩ | ⟨g, cap, cur, rfl, hb, hh, hn, hm, hs, ht⟩
  · exact ⟨none, 0, rfl, fun i hi => by omega⟩
  · refine ⟨_, _, rfl, fun i _ => ⟨g, 0, rfl, (Array.getElem?_eq_some_iff.1 hh).1, fun j v hv => ?_⟩⟩
    rw [List.getElem?_take] at hv
    split at hv
    · rw [List.getElem?_drop] at hv
      have := World.ownsRow.cells h (g := g) rfl (i * k + j) v hv
      rw [Nat.zero_add]
      rwa [show (⟨g, 0, none⟩ : Addr).add (i * k + j) = ⟨g, i * k + j, none⟩ by unfold Addr.add; split <;> simp_all] at this
    · cases hv
theorem RdK.nil (k : Nat) (w : World) : RdK k w (.slice none 0 0) 0 [] := ⟨none, 0, rfl, fun i hi => by omega⟩
theorem opsC_at {num : Int} : ∀ {its : List It} {j i : Nat} {x : It}, its[i]? = some x → ((opsC num j its).drop (i * 7)).take 7 = opl num (j + i) x
  | [], j, i, x, h => by simp at h
  | y :: r, j, 0, x, h => by
    simp at h
    subst h
    simp [opsC]
  | y :: r, j, i + 1, x, h => by
    have := opsC_at (num := num) (its := r) (j := j + 1) (i := i) (x := x) (by simpa using h)
    rw [opsC, show (i + 1) * 7 = (opl num j y).length + i * 7 by show (i + 1) * 7 = 7 + i * 7; omega, ← List.drop_drop, List.drop_left, this, show j + 1 + i = j + (i + 1) by omega]
set_option maxRecDepth 20000 in
set_option maxHeartbeats 4000000 in
theorem sameOps_yes (num : Int) (its : List It) (v v' : Value) (w : World) (L : Nat) (hL : its.length = L) (hl : L ≤ 1000000000) (h : RdK 7 w v L (opsC num 0 its)) (h' : RdK 7 w v' L (opsC num 0 its)) : Calls Tryd.prog 13 #[v, v'] w fun e w' => e = .returned (.bool true) ∧ Below w.heap.size w w' := by
  obtain ⟨ao, cap, rfl, H⟩ := h
  obtain ⟨ao', cap', rfl, H'⟩ := h'
  have GI : Hid (∀ i, i < L → ∃ x : It, (∃ g o, ao = some ⟨g, o, none⟩ ∧ ∀ n, (w.drewN n).rangeAt g (o + i * 7) (opl num i x)) ∧ ∃ g o, ao' = some ⟨g, o, none⟩ ∧ ∀ n, (w.drewN n).rangeAt g (o + i * 7) (opl num i x)) := fun i hi => by
    have hx : its[i]? = some (its[i]'(by omega)) := List.getElem?_eq_getElem (by omega)
    have e := opsC_at (num := num) (j := 0) hx
    rw [Nat.zero_add] at e
    obtain ⟨g, o, e1, _, r1⟩ := H i hi
    obtain ⟨g', o', e2, _, r2⟩ := H' i hi
    rw [e] at r1 r2
    exact ⟨_, ⟨g, o, e1, fun n => r1⟩, g', o', e2, fun n => r2⟩
  have e3 : ((L : Int) != (L : Int)) = false := by simp
  clear H H' hL
  go_enter Tryd.func13, Tryd.ntmps13
  go_wp2_with fail
  go_loopw [5] (fun vk wr => ∃ (m k : Nat), wr = w.drewN m ∧ vk = .int .i64 (k : Int) ∧ k ≤ L) (fun vk _ => L - (intOf vk).toNat)
  case atStart => exact ⟨0, 0, rfl, rfl, by omega⟩
  case round =>
    obtain ⟨m, k, rfl, rfl, hk⟩ := hrel
    by_cases hlt : (k : Int) < (L : Int)
    · obtain ⟨x, ⟨g, o, rfl, rg⟩, g', o', rfl, rg'⟩ := GI.out k (by omega)
      obtain ⟨xl, xa⟩ := x
      have CC : Hid ((w.drewN m).drew.rangeAt g (o + k * 7) (opl num k ⟨xl, xa⟩) ∧ (w.drewN m).drew.rangeAt g' (o' + k * 7) (opl num k ⟨xl, xa⟩)) := ⟨rg (m + 1), rg' (m + 1)⟩
      clear rg rg'
      go_upto_region 6 with fail
      refine wp_region_held_drew (S := fun w' => w'.rangeAt g (o + k * 7) (opl num k ⟨xl, xa⟩) ∧ w'.rangeAt g' (o' + k * 7) (opl num k ⟨xl, xa⟩)) (by kernel_rfl) (CC.out) (fun hH => ?_)
      refine wpAnyH_take (i := 0) (oi := { dst := some 17, op := Op.move (Operand.tmp 0), type := 31, pos := "law.go:46", after := #[], guard := none }) (v := .slice (some ⟨g, o, none⟩) L cap) rfl (by kernel_rfl) (by kernel_rfl) (by kernel_rfl) (fun _ _ _ h => h) (Or.inl ⟨by rfl, fun w' hs => by go_simp⟩) hH ?_
      try simp only [Act.put, List.setIfInBounds_toArray, List.set_cons_zero, List.set_cons_succ]
      refine wpAnyH_take (i := 1) (oi := { dst := some 18, op := Op.move (Operand.tmp 5), type := 3, pos := "law.go:46", after := #[], guard := none }) (v := .int .i64 (k : Int)) rfl (by kernel_rfl) (by kernel_rfl) (by kernel_rfl) (fun _ _ _ h => h) (Or.inl ⟨by rfl, fun w' hs => by go_simp⟩) hH ?_
      try simp only [Act.put, List.setIfInBounds_toArray, List.set_cons_zero, List.set_cons_succ]
      refine wpAnyH_take (i := 2) (oi := { dst := some 19, op := Op.indexAddr 31 (Operand.tmp 17) (Operand.tmp 18), type := 0, pos := "law.go:46", after := #[{ on := 0, ground := Ground.data }, { on := 1, ground := Ground.data }], guard := none }) (v := .pointer (some ⟨g, o + k * 7, none⟩)) rfl (by kernel_rfl) (by kernel_rfl) (by kernel_rfl) (fun _ _ _ h => h) (Or.inl ⟨by rfl, fun w' hs => by go_simp⟩) hH ?_
      try simp only [Act.put, List.setIfInBounds_toArray, List.set_cons_zero, List.set_cons_succ]
      refine wpAnyH_take (i := 3) (oi := { dst := some 20, op := Op.load 35 (Operand.tmp 19), type := 35, pos := "law.go:46", after := #[{ on := 2, ground := Ground.data }], guard := none }) (v := .agg ((opl num k ⟨xl, xa⟩) : List Value).toArray) rfl (by kernel_rfl) (by kernel_rfl) (by kernel_rfl) (fun _ _ _ h => h) (yieldsIf_load_mid (by rfl) _ _ rfl _ (o + k * 7) rfl ((opl num k ⟨xl, xa⟩)) _ (fun w' h => h.1) Tryd.underlying35 rfl (sizeOp _ _ _)) hH ?_
      try simp only [Act.put, List.setIfInBounds_toArray, List.set_cons_zero, List.set_cons_succ]
      refine wpAnyH_take (i := 4) (oi := { dst := some 21, op := Op.move (Operand.tmp 1), type := 31, pos := "law.go:46", after := #[], guard := none }) (v := .slice (some ⟨g', o', none⟩) L cap') rfl (by kernel_rfl) (by kernel_rfl) (by kernel_rfl) (fun _ _ _ h => h) (Or.inl ⟨by rfl, fun w' hs => by go_simp⟩) hH ?_
      try simp only [Act.put, List.setIfInBounds_toArray, List.set_cons_zero, List.set_cons_succ]
      refine wpAnyH_take (i := 5) (oi := { dst := some 22, op := Op.move (Operand.tmp 5), type := 3, pos := "law.go:46", after := #[], guard := none }) (v := .int .i64 (k : Int)) rfl (by kernel_rfl) (by kernel_rfl) (by kernel_rfl) (fun _ _ _ h => h) (Or.inl ⟨by rfl, fun w' hs => by go_simp⟩) hH ?_
      try simp only [Act.put, List.setIfInBounds_toArray, List.set_cons_zero, List.set_cons_succ]
      refine wpAnyH_take (i := 6) (oi := { dst := some 23, op := Op.indexAddr 31 (Operand.tmp 21) (Operand.tmp 22), type := 0, pos := "law.go:46", after := #[{ on := 4, ground := Ground.data }, { on := 5, ground := Ground.data }], guard := none }) (v := .pointer (some ⟨g', o' + k * 7, none⟩)) rfl (by kernel_rfl) (by kernel_rfl) (by kernel_rfl) (fun _ _ _ h => h) (Or.inl ⟨by rfl, fun w' hs => by go_simp⟩) hH ?_
      try simp only [Act.put, List.setIfInBounds_toArray, List.set_cons_zero, List.set_cons_succ]
      refine wpAnyH_take (i := 7) (oi := { dst := some 24, op := Op.load 35 (Operand.tmp 23), type := 35, pos := "law.go:46", after := #[{ on := 6, ground := Ground.data }], guard := none }) (v := .agg ((opl num k ⟨xl, xa⟩) : List Value).toArray) rfl (by kernel_rfl) (by kernel_rfl) (by kernel_rfl) (fun _ _ _ h => h) (yieldsIf_load_mid (by rfl) _ _ rfl _ (o' + k * 7) rfl ((opl num k ⟨xl, xa⟩)) _ (fun w' h => h.2) Tryd.underlying35 rfl (sizeOp _ _ _)) hH ?_
      try simp only [Act.put, List.setIfInBounds_toArray, List.set_cons_zero, List.set_cons_succ]
      refine wpAnyH_take (i := 8) (oi := { dst := some 25, op := Op.binOp BinOp.neq 35 (Operand.tmp 20) (Operand.tmp 24) 35, type := 4, pos := "law.go:46", after := #[{ on := 3, ground := Ground.data }, { on := 7, ground := Ground.data }], guard := none }) (v := .bool false) rfl (by kernel_rfl) (by kernel_rfl) (by kernel_rfl) (fun _ _ _ h => h) (yieldsIf_neqS (by rfl) 35 35 _ _ rfl (opl num k ⟨xl, xa⟩) rfl rfl (by kernel_rfl) (neq_op _ _ _)) hH ?_
      try simp only [Act.put, List.setIfInBounds_toArray, List.set_cons_zero, List.set_cons_succ]
      refine wpAnyH_done (by kernel_rfl) ?_ _
      clear hH CC
      go_wp2_with fail
      go_roundw
      case rel => exact ⟨m + 1, k + 1, by first | rfl | simp, by go_num, by omega⟩
      case measure => simp [intOf]; omega
    · obtain rfl : k = L := by omega
      go_wp2_with fail
      go_ret
      exact ⟨rfl, below_drewN (Below.refl _ _) m⟩
set_option maxHeartbeats 2000000 in
theorem sameBytes_yes (bs : List Nat) (v v' : Value) (w : World) (L : Nat) (hL : bs.length = L) (hl : L ≤ 140737488355328) (h : RdB w v bs) (h' : RdB w v' bs) : Calls Tryd.prog 10 #[v, v'] w fun e w' => e = .returned (.bool true) ∧ Below w.heap.size w w' := by
  obtain ⟨ao, cap, e, _, _, H⟩ := h
  obtain ⟨ao', cap', e', _, _, H'⟩ := h'
  have el : (bs.map bv).length = L := by rw [List.length_map, hL]
  rw [el] at e e'
  subst e e'
  have GI : Hid (∀ i, i < L → ∃ x : Nat, (∃ g o, ao = some ⟨g, o, none⟩ ∧ w.cell? ⟨g, o + i, none⟩ = some (.int .u8 (x : Int))) ∧ ∃ g o, ao' = some ⟨g, o, none⟩ ∧ w.cell? ⟨g, o + i, none⟩ = some (.int .u8 (x : Int))) := fun i hi => by
    obtain ⟨g, o, e1, _, r1⟩ := H i (by rw [el]; exact hi)
    obtain ⟨g', o', e2, _, r2⟩ := H' i (by rw [el]; exact hi)
    rw [List.getElem_map] at r1 r2
    exact ⟨_, ⟨g, o, e1, r1⟩, g', o', e2, r2⟩
  clear el
  have e3 : ((L : Int) != (L : Int)) = false := by simp
  clear H H' hL
  go_enter Tryd.func10, Tryd.ntmps10
  go_wp2_with fail
  go_loopw [5] (fun vk wr => ∃ (m k : Nat), wr = w.drewN m ∧ vk = .int .i64 (k : Int) ∧ k ≤ L) (fun vk _ => L - (intOf vk).toNat)
  case atStart => exact ⟨0, 0, rfl, rfl, by omega⟩
  case round =>
    obtain ⟨m, k, rfl, rfl, hk⟩ := hrel
    by_cases hlt : (k : Int) < (L : Int)
    · obtain ⟨x, ⟨g, o, rfl, rg⟩, g', o', rfl, rg'⟩ := GI.out k (by omega)
      have e1 : ((x : Int) != (x : Int)) = false := by simp
      go_wp2_with fail
      go_quiet (fail)
      go_wp2_with fail
      go_roundw
      case rel => exact ⟨m + nq, k + 1, by simp, by go_num, by omega⟩
      case measure => simp [intOf]; omega
    · obtain rfl : k = L := by omega
      go_wp2_with fail
      go_ret
      exact ⟨rfl, below_drewN (Below.refl _ _) m⟩
end Go.Proofs.YtnjpmihffenkcaaDoor
