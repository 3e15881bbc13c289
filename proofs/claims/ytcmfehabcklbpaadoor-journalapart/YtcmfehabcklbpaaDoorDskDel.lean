/-
  Ours: slices.Delete of the first crash.
-/
import Derived.Test.YtcmfehabcklbpaaDoorDskAdd
import Derived.Deep.RegionLaw
namespace Go.Proofs.YtcmfehabcklbpaaDoor
open Go.RowKit

theorem infoC : (Tryd.prog.info? 82).map (fun i => (i.zero, i.size, i.bytes)) = some (some (.agg #[.int .i64 0, .int .i64 0]), 2, 16) := by kernel_rfl
theorem underC : Tryd.prog.underlying 65 = some (.slice 82) := by kernel_rfl

theorem wpList_clear {P : Program} {w : World} {ops : Array Oper} {rest : List Oper} {o : Oper} {a : Act} {Q : Exit → Act → World → Prop} (hgd : o.guard = none) (x : Operand) (t : TypeId)
    (ho : o.op = .call { callee := .builtin .clear, args := #[x], argTypes := #[t] }) (v r : Value) (w' : World) (hx : a.eval x = v) (hrun : (Builtin.clear_ #[t] o.type #[v]).run P w = .ok r w')
    (h : wpList P ops Q rest (a.put o.dst r) w') : wpList P ops Q (o :: rest) a w := by
  refine wpList_plain hgd fun K hK => ?_
  unfold Oper.wp
  simp [execOp, ho, resolve, invoke, builtin, hx, hrun, Result.andThen]
  exact hK _ _ h
theorem qv_len : ∀ q : List (Int × Int), (qv q).length = q.length * 2
  | [] => rfl
  | c :: q => by
    have := qv_len q
    simp only [qv, List.flatMap_cons, List.length_append, List.length_cons, List.length_nil] at *
    omega
theorem qv_one (q : List (Int × Int)) : ∀ u ∈ qv q, u.oneCell' = true := fun u hu => by
  obtain ⟨c, _, h⟩ := List.mem_flatMap.1 hu
  simp at h
  rcases h with rfl | rfl <;> rfl
theorem run_clear (w : World) (ty : TypeId) (g o k : Nat) (h0 : (w.cell? ⟨g, o, none⟩).isSome = true) (h1 : (w.cell? ⟨g, o + 1, none⟩).isSome = true) (f0 : w.frozen? ⟨g, o, none⟩ = false) (f1 : w.frozen? ⟨g, o + 1, none⟩ = false) :
    (Builtin.clear_ #[65] ty #[.slice (some ⟨g, o, none⟩) 1 k]).run Tryd.prog w = .ok (.tuple #[]) (w.setCells g o [.int .i64 0, .int .i64 0]) := by
  obtain ⟨i0, hi, hz0, hz1, hz2⟩ := info_parts infoC
  have hs := run_storeCells_cells (P := Tryd.prog) g o [.int .i64 0, .int .i64 0] 0 w (fun j hj => by
    rcases j with _ | _ | j
    · simpa using h0
    · simpa using h1
    · simp at hj; omega) (fun j hj => by
    rcases j with _ | _ | j
    · simpa using f0
    · simpa using f1
    · simp at hj; omega) (fun v hv => by simp at hv; rcases hv with rfl | rfl <;> rfl)
  simp only [Nat.add_zero] at hs
  simp [Builtin.clear_, run_underlying underC, zeroValue, typeInfo, hi, hz0, Builtin.zeroCells, Value.cells, Result.andThen]
  rw [show (List.map (fun i => [Value.int IntKind.i64 0, Value.int IntKind.i64 0][i % 2]?.getD default) (List.range 2)) = [Value.int IntKind.i64 0, Value.int IntKind.i64 0] from rfl, hs]

set_option maxRecDepth 20000 in
set_option maxHeartbeats 1000000 in
theorem delete_at (q : List (Int × Int)) (c0 : Int × Int) (g n c : Nat) (w : World) (h : RowQ w (.slice (some ⟨g, 0, none⟩) (n + 1) c) (c0 :: q)) (hq : q.length = n) (hq64 : n ≤ 64) :
    Calls Tryd.prog 88 #[.slice (some ⟨g, 0, none⟩) (n + 1) c, .int .i64 0, .int .i64 1] w fun e w' => e = .returned (.slice (some ⟨g, 0, none⟩) n c) ∧ RowQ w' (.slice (some ⟨g, 0, none⟩) n c) q ∧ w.grownBy w' (some g) := by
  obtain ⟨i0, hi, hz0, hz1, hz2⟩ := info_parts infoC
  obtain ⟨N, hN⟩ : ∃ N, n + 1 = N := ⟨_, rfl⟩
  rw [hN] at h ⊢
  obtain ⟨cur, hg, hNc, hcm, hcs, htk⟩ : ∃ cur, w.heap[g]? = some (.cells cur 82 (0, 0)) ∧ N ≤ c ∧ c ≤ maxLen ∧ cur.size = c * 2 ∧ cur.toList.take (N * 2) = qv (c0 :: q) := by
    rcases h.2 with ⟨e, _⟩ | ⟨g', cap, cur, e, _, hg, h1, h2, h3, h4⟩
    · cases e
    · injection e with e1 e2 e3
      injection e1 with e1
      injection e1 with e1
      subst e1 e3
      rw [← e2] at h1 h4
      exact ⟨cur, hg, h1, h2, h3, h4⟩
  have cellI : ∀ j, j < c * 2 → (w.cell? ⟨g, j, none⟩).isSome = true := fun j hj => by
    simp [World.cell?, hg]; omega
  have fz : ∀ j, w.frozen? ⟨g, j, none⟩ = false := fun j => by simp [World.frozen?, hg]
  -- the address of s[1:]
  obtain ⟨A, hA, hnews⟩ : ∃ A : Addr, (if c = 1 then some (⟨g, 0, none⟩ : Addr) else some ⟨g, 2, none⟩) = some A ∧ ∀ j u, (qv q)[j]? = some u → w.cell? (A.add j) = some u := by
    by_cases c1 : c = 1
    · refine ⟨⟨g, 0, none⟩, by rw [if_pos c1], fun j u hj => ?_⟩
      have : q = [] := List.eq_nil_of_length_eq_zero (by omega)
      subst this
      simp [qv] at hj
    · refine ⟨⟨g, 2, none⟩, by rw [if_neg c1], fun j u hj => ?_⟩
      have hjl : j < (qv q).length := (List.getElem?_eq_some_iff.1 hj).1
      have e : (qv (c0 :: q))[2 + j]? = some u := by
        rw [show qv (c0 :: q) = [.int .i64 c0.1, .int .i64 c0.2] ++ qv q from rfl, List.getElem?_append_right (by simp)]
        simpa using hj
      rw [← htk, List.getElem?_take_of_lt (by rw [qv_len] at hjl; omega)] at e
      rw [Addr.add_lit]
      simp [World.cell?, hg]
      simpa using e
  have HN : Hid (∀ j u, (qv q)[j]? = some u → w.cell? (A.add j) = some u) := hnews
  have s1 : Hid ((qv q).length = n * 2) := by show _ = _; rw [qv_len, hq]
  have s2 : Hid (∀ u ∈ qv q, u.oneCell' = true) := qv_one q
  have s3 : Hid (∀ j, j < (qv q).length → (w.cell? ⟨g, 0 + 0 * 2 + j, none⟩).isSome = true ∧ w.frozen? ⟨g, 0 + 0 * 2 + j, none⟩ = false) := fun j hj => ⟨by rw [qv_len] at hj; simpa using cellI j (by omega), fz _⟩
  -- the row behind the append
  have z0 : w.drew.ownsRow 0 82 2 (.slice (some ⟨g, 0, none⟩) 0 c) 0 [] := ⟨rfl, .inr ⟨g, c, cur, rfl, Nat.zero_le _, hg, Nat.zero_le _, hcm, hcs, by simp⟩⟩
  obtain ⟨w', hr1, r1, g1⟩ := run_append_fits (P := Tryd.prog) (w := w.drew) 0 65 65 82 i0 2 underC hi hz1 g 0 c [] z0 A n (c - 1) (qv q) s1.out HN.out s2.out (by omega)
  have hr2 := run_append_room_cells (P := Tryd.prog) w.drew 65 65 82 i0 underC hi g 0 0 c A n (c - 1) (qv q) (by rw [hz1]; exact s1.out) HN.out s2.out (by omega) (fun j hj => by rw [hz1]; exact (s3.out j hj).1) (fun j hj => by rw [hz1]; exact (s3.out j hj).2)
  rw [hr1] at hr2
  injection hr2 with _ hr3
  rw [hz1, Nat.zero_mul, Nat.add_zero] at hr3
  subst hr3
  rw [List.nil_append, Nat.zero_add] at r1
  have g1' : w.grownBy (w.drew.setCells g 0 (qv q)) (some g) := ⟨g1.os, g1.tape, g1.output, g1.size, g1.block⟩
  obtain ⟨cur2, hg2, hcs2⟩ : ∃ cur2, (w.drew.setCells g 0 (qv q)).heap[g]? = some (.cells cur2 82 (0, 0)) ∧ cur2.size = c * 2 := by
    rcases r1.2 with ⟨e, _⟩ | ⟨g', cap, cu, e, _, hg', _, _, h3, _⟩
    · cases e
    · injection e with e1 e2 e3
      injection e1 with e1
      injection e1 with e1
      subst e1 e3
      exact ⟨cu, hg', h3⟩
  have CL : Hid (∀ ty, (Builtin.clear_ #[65] ty #[.slice (some ⟨g, n * 2, none⟩) 1 (c - n)]).run Tryd.prog (w.drew.setCells g 0 (qv q)) = .ok (.tuple #[]) ((w.drew.setCells g 0 (qv q)).setCells g (n * 2) [.int .i64 0, .int .i64 0])) := fun ty => run_clear _ ty g (n * 2) _ (by simp [World.cell?, hg2]; omega) (by simp [World.cell?, hg2]; omega) (by simp [World.frozen?, hg2]) (by simp [World.frozen?, hg2])
  obtain ⟨r3, g3⟩ := World.ownsRow.stored r1 (n * 2) (.int .i64 0)
  obtain ⟨r4, g4⟩ := World.ownsRow.stored r3 (n * 2 + 1) (.int .i64 0)
  rw [List.set_eq_of_length_le (by rw [List.length_set, s1.out]; omega), List.set_eq_of_length_le (by rw [s1.out]; omega)] at r4
  have R4 : Hid (RowQ ((w.drew.setCells g 0 (qv q)).setCells g (n * 2) [.int .i64 0, .int .i64 0]) (.slice (some ⟨g, 0, none⟩) n c) q) := by show RowQ _ _ _; unfold RowQ; rw [hq]; exact r4
  have G4 : Hid (w.grownBy ((w.drew.setCells g 0 (qv q)).setCells g (n * 2) [.int .i64 0, .int .i64 0]) (some g)) := grownBy_trans g1' (grownBy_trans g3 g4)
  have k1 : 1 ≤ N := by omega
  have k2 : 1 ≤ c := by omega
  have k3 : N - 1 = n := by omega
  have k4 : (1 : Int) ≤ (N : Int) := by omega
  have k5 : ¬ c = n := by omega
  have k6 : N - n = 1 := by omega
  have k7 : (n : Int) ≤ (N : Int) := by omega
  have k8 : n ≤ N := by omega
  go_enter Tryd.func88, Tryd.ntmps88
  clear h htk hnews cellI fz r1 g1 g1' r3 r4 g3 g4 z0 hg2 hcs2 hr1 hcs hg
  go_upto_region 5 with fail
  go_region_law (refine step_append_room rfl (.tmp 22) (.tmp 25) 65 rfl 82 i0 2 underC hi hz1 g 0 0 c (by simp [Act.eval, Act.put]) A n (c - 1) (qv q) (by simp [Act.eval, Act.put, *]) s1.out HN.out s2.out (by omega) s3.out ?_)
  generalize w.drew.setCells g 0 (qv q) = W1 at *
  go_wp2_with (refine wpList_clear rfl (.tmp 31) 65 rfl _ _ _ rfl (CL.out _) ?_)
  go_ret
  exact ⟨rfl, R4.out, G4.out⟩
end Go.Proofs.YtcmfehabcklbpaaDoor
