/-
  Ours: OutboxAdds (gen_obh.py: THE SEAT's OWN NUMBERS).
-/
import Derived.Test.YteppdlaoeoeplaaObLaw
import Derived.Deep.AppendLies
namespace Go.Proofs.Yteppdlaoeoeplaa
open Go.RowKit ObM LedM PolM
set_option linter.unusedSimpArgs false

theorem infoOx : (Try.prog.info? 30).map (fun i => (i.zero, i.size, i.bytes)) = some (some (.agg #[.int .i64 0, .bool false, .int .i64 0, .int .i64 0, .slice none 0 0]), 5, 56) := by kernel_rfl
set_option maxRecDepth 40000 in
set_option maxHeartbeats 4000000 in
theorem outboxAdds_any (l hs : List Int) (s : Value) (os : List Oc) (a : Option Addr) (n c : Nat) (w : World) (hl : l.length = 17) (hr : Rd w s (bkL hs)) (hb : hs.length ≤ 1048576) (hO : RdOc w (.slice a n c) os) (hok : ∀ o ∈ os, OcOk o ∧ o.bs.length ≤ 1048576) (hn : os.length = n) (hN : n ≤ 1048576) :
    Calls Try.prog 3 #[.agg (polL l s).toArray, .slice a n c] w fun e w' => e = .returned (.bool true) ∧ Below w.heap.size w w' := by
  obtain ⟨ix, hx0, hx1, hx2, hx3⟩ := info_parts infoOx
  have SZP : Hid ((Try.prog.info? 24).map (·.size) = some (polL l s).length) := by show _ = _; rw [polL_len hl]; exact sizeP
  have UPA : Hid (∀ (v : Value) (xs : List Oc) (w' : World), Below w.heap.size w w' → RdOc w' v xs → (∀ o ∈ xs, OcOk o ∧ o.bs.length ≤ 1048576) → xs.length ≤ 1048590 → Calls Try.prog 8 #[.agg (polL l s).toArray, v, .int .i64 1, .int .i64 1] w' fun e w'' => e = .returned (.bool true) ∧ Below w'.heap.size w' w'') := fun v xs w' b r ok nn => upTo_at l hs s xs v 1 1 w' hl (hr.later b) (by omega) r ok nn
  have SC : Hid (RdOc w (.slice a n c) os ∧ (∀ o ∈ os, OcOk o ∧ o.bs.length ≤ 1048576) ∧ os.length = n ∧ n ≤ 1048576) := ⟨hO, hok, hn, hN⟩
  obtain ⟨Q, hQ⟩ : ∃ Q, w.heap.size = Q := ⟨_, rfl⟩
  obtain ⟨w0, hw0⟩ : ∃ w0, w.alloc (.cells (polL l s).toArray 24) = w0 := ⟨_, rfl⟩
  have S0 : Hid (Blk Q 24 (polL l s) w0 ∧ Below w.heap.size w w0) := by
    rw [← hw0, ← hQ]
    exact ⟨Blk.new _ _ _, below_alloc _ _⟩
  clear hl hr hb hO hok hn hN
  go_enter Try.func3, Try.ntmps3
  go_upto_region 1 with fail
  clear hQ hw0
  refine wp_region_held_drew (S := fun x => Blk Q 24 (polL l s) x) (by kernel_rfl) (S0.out.1) (fun hH => ?_)
  refine wpAnyH_take (i := 0) (oi := { dst := some 5, op := Op.load 24 (Operand.tmp 2), type := 24, pos := "law.go:244", after := #[], guard := none }) (v := .agg (polL l s : List Value).toArray) rfl (by kernel_rfl) (by kernel_rfl) (by kernel_rfl) (fun _ _ _ h => h) (yieldsIf_load_mid (by rfl) _ _ rfl _ 0 rfl (polL l s) _ (fun w' h => h.all) Try.underlying24 rfl SZP.out) hH ?_
  try simp only [Act.put, List.setIfInBounds_toArray, List.set_cons_zero, List.set_cons_succ]
  refine wpAnyH_take (i := 2) (oi := { dst := some 7, op := Op.build 30 #[(0, Operand.const (Value.int IntKind.i64 1))], type := 30, pos := "law.go:244", after := #[], guard := none }) (v := .agg #[.int .i64 1, .bool false, .int .i64 0, .int .i64 0, .slice none 0 0]) rfl (by kernel_rfl) (by kernel_rfl) (by kernel_rfl) (fun _ _ _ h => h) (Or.inl ⟨by rfl, fun w' hs => by go_simp⟩) hH ?_
  try simp only [Act.put, List.setIfInBounds_toArray, List.set_cons_zero, List.set_cons_succ]
  refine wpAnyH_ready (rs := [1, 3]) (by kernel_rfl) (by simp) ?_
  refine AllReadyH.cons (o := { dst := some 6, op := Op.call { callee := Callee.value (Operand.func 9), args := #[], argTypes := #[] }, type := 25, pos := "law.go:244", after := #[], guard := none }) rfl (fun Kx hK => ?_) (AllReadyH.cons (o := { dst := some 8, op := Op.buildSlice 25 1 #[(0, Operand.tmp 7)], type := 25, pos := "law.go:244", after := #[{ on := 2, ground := Ground.data }], guard := none }) rfl (fun Kx hK => ?_) AllReadyH.nil)
  · go_simp
    refine (first_at _).mono ?_
    rintro e w1 ⟨rfl, r1, d1, b1⟩
    have B1 : Below w0.heap.size w0 w1 := ⟨b1.os, b1.tape, b1.output, b1.size, b1.block⟩
    have bA := below_alloc w1 (.cells #[.int .i64 1, .bool false, .int .i64 0, .int .i64 0, .slice none 0 0] 30)
    obtain ⟨w3, hw3⟩ : ∃ w3, w1.alloc (.cells #[.int .i64 1, .bool false, .int .i64 0, .int .i64 0, .slice none 0 0] 30) = w3 := ⟨_, rfl⟩
    have E3 : Hid (Blk Q 24 (polL l s) w3 ∧ Below w.heap.size w w3 ∧ w3.ownsRow w0.heap.size 30 5 (.slice (some ⟨w0.heap.size + 1, 0, none⟩) 4 4) 4 ((first4 w0.heap.size).flatMap ocX) ∧ Blk w1.heap.size 30 (ocX addX) w3 ∧ RdB w3 (.slice (some ⟨w0.heap.size, 0, none⟩) 2 2) [1, 2] ∧ w0.heap.size ≤ w3.heap.size) := by
      rw [← hw3]
      exact ⟨(S0.out.1.below B1).below bA, below_trans (below_trans S0.out.2 B1) bA, own_kp r1 (Kp.of_below bA (fun _ => False)) (fun _ _ q => q), Blk.new _ [.int .i64 1, .bool false, .int .i64 0, .int .i64 0, .slice none 0 0] _, Rd.later d1 bA, Nat.le_trans B1.size bA.size⟩
    have FBW : Hid (w.heap.size ≤ w0.heap.size) := S0.out.2.size
    refine hK.out _ _ (S0.out.1.below B1) (fun hH => ?_)
    clear r1 d1 b1 bA
    try simp only [Act.put, List.setIfInBounds_toArray, List.set_cons_zero, List.set_cons_succ]
    refine wpAnyH_ready (rs := [3]) (by kernel_rfl) (by simp) ?_
    refine AllReadyH.cons (o := { dst := some 8, op := Op.buildSlice 25 1 #[(0, Operand.tmp 7)], type := 25, pos := "law.go:244", after := #[{ on := 2, ground := Ground.data }], guard := none }) rfl (fun Kx hK => ?_) AllReadyH.nil
    go_simp
    clear hw3
    refine hK.out _ _ E3.out.1 (fun hH => ?_)
    try simp only [Act.put, List.setIfInBounds_toArray, List.set_cons_zero, List.set_cons_succ]
    refine wpAnyH_ready (rs := [4]) (by kernel_rfl) (by simp) ?_
    refine AllReadyH.cons (o := { dst := some 9, op := Op.call { callee := Callee.builtin Builtin.append, args := #[Operand.tmp 6, Operand.tmp 8], argTypes := #[25, 25] }, type := 25, pos := "law.go:244", after := #[{ on := 1, ground := Ground.data }, { on := 3, ground := Ground.data }, { on := 1, ground := Ground.chain }], guard := none }) rfl (fun Kx hK => ?_) AllReadyH.nil
    refine step_append_lies _ rfl (.tmp 6) (.tmp 8) 25 rfl w0.heap.size 30 ix (.agg #[.int .i64 0, .bool false, .int .i64 0, .int .i64 0, .slice none 0 0]) 5 56 Try.underlying25 hx0 hx1 hx2 hx3 rfl (by decide) (.slice (some ⟨w0.heap.size + 1, 0, none⟩) 4 4) 4 ((first4 w0.heap.size).flatMap ocX) rfl E3.out.2.2.1 ⟨w1.heap.size, 0, none⟩ 1 1 (ocX addX) rfl rfl (fun j u hj => by rw [addr_litC, Nat.zero_add]; exact E3.out.2.2.2.1.cell j u hj) (ocX_one addX) (by decide) (by unfold maxLen; omega) (by omega) E3.out.2.2.2.2.2 _ rfl ?_
    intro g4 c4 w4 r4 gr4 _ _
    have E4 : Hid (Blk Q 24 (polL l s) w4 ∧ Below w.heap.size w w4 ∧ RdOc w4 (.slice (some ⟨g4, 0, none⟩) (4 + 1) c4) ((first4 w0.heap.size ++ [addX]).map (·.1))) := by
      have q := E3.out
      have kq := Kp.of_grown gr4
      have nq : ∀ x, Blk x 24 (polL l s) w3 → ¬ ((Value.slice (some ⟨w0.heap.size + 1, 0, none⟩) 4 4).ownBlock = some x) := fun x hx e => by
        obtain ⟨_, _, h1⟩ := own_heap q.2.2.1 e
        exact ne_ty h1 hx (by decide) rfl
      refine ⟨q.1.kp kq (nq _ q.1), below_kp q.2.1 kq (fun g e => Nat.le_trans FBW.out (own_heap q.2.2.1 e).1), rdOc_row (by simpa [List.flatMap_append, show (first4 w0.heap.size).length = 4 from rfl] using r4) (fun x hx => ?_)⟩
      rcases List.mem_append.1 hx with hx | hx
      · refine first4_rd (q.2.2.2.2.1.kp kq (fun g hg e => ?_)) x hx
        have e1 : w0.heap.size = g := by simpa [Value.ownBlock] using hg
        have e2 : w0.heap.size + 1 = g := by simpa [Value.ownBlock] using e
        omega
      · rw [List.mem_singleton.1 hx]
        exact rdb_nil w4
    clear r4 gr4
    refine hK.out _ _ E4.out.1 (fun hH => ?_)
    try simp only [Act.put, List.setIfInBounds_toArray, List.set_cons_zero, List.set_cons_succ]
    refine wpAnyH_ready (rs := [5]) (by kernel_rfl) (by simp) ?_
    refine AllReadyH.cons (o := { dst := some 10, op := Op.call { callee := Callee.value (Operand.func 8), args := #[Operand.tmp 5, Operand.tmp 9, Operand.const (Value.int IntKind.i64 1), Operand.const (Value.int IntKind.i64 1)], argTypes := #[24, 25, 3, 3] }, type := 4, pos := "law.go:244", after := #[{ on := 0, ground := Ground.data }, { on := 4, ground := Ground.data }, { on := 4, ground := Ground.chain }], guard := none }) rfl (fun Kx hK => ?_) AllReadyH.nil
    go_simp
    refine (UPA.out _ _ w4 E4.out.2.1 E4.out.2.2 (fun o ho => ?_) (by show 5 ≤ _; decide)).mono ?_
    · rw [List.map_append] at ho
      rcases List.mem_append.1 ho with ho | ho
      · exact first4_ok _ o ho
      · simp only [List.map_cons, List.map_nil, List.mem_singleton] at ho
        subst ho
        exact ⟨⟨⟨by decide, by decide⟩, ⟨by decide, by decide⟩, ⟨by decide, by decide⟩⟩, by decide⟩
    rintro e w2 ⟨rfl, b2⟩
    have E2 : Hid (Blk Q 24 (polL l s) w2 ∧ Below w.heap.size w w2) := ⟨E4.out.1.below b2, below_trans E4.out.2.1 b2⟩
    clear b2 E4 E3
    refine hK.out _ _ E2.out.1 (fun hH => ?_)
    try simp only [Act.put, List.setIfInBounds_toArray, List.set_cons_zero, List.set_cons_succ]
    refine wpAnyH_take (i := 6) (oi := { dst := some 11, op := Op.move (Operand.tmp 10), type := 4, pos := "law.go:244", after := #[{ on := 5, ground := Ground.data }, { on := 5, ground := Ground.chain }], guard := none }) (v := .bool true) rfl (by kernel_rfl) (by kernel_rfl) (by kernel_rfl) (fun _ _ _ h => h) (Or.inl ⟨by rfl, fun w' hs => by go_simp⟩) hH ?_
    try simp only [Act.put, List.setIfInBounds_toArray, List.set_cons_zero, List.set_cons_succ]
    refine wpAnyH_take (i := 7) (oi := { dst := some 12, op := Op.load 24 (Operand.tmp 2), type := 24, pos := "law.go:244", after := #[{ on := 6, ground := Ground.guard }], guard := some (6, true) }) (v := .agg (polL l s : List Value).toArray) rfl (by kernel_rfl) (by kernel_rfl) (by kernel_rfl) (fun _ _ _ h => h) (yieldsIf_load_mid (by rfl) _ _ rfl _ 0 rfl (polL l s) _ (fun w' h => h.all) Try.underlying24 rfl SZP.out) hH ?_
    try simp only [Act.put, List.setIfInBounds_toArray, List.set_cons_zero, List.set_cons_succ]
    refine wpAnyH_take (i := 8) (oi := { dst := some 13, op := Op.move (Operand.tmp 1), type := 25, pos := "law.go:244", after := #[{ on := 6, ground := Ground.guard }], guard := some (6, true) }) (v := .slice a n c) rfl (by kernel_rfl) (by kernel_rfl) (by kernel_rfl) (fun _ _ _ h => h) (Or.inl ⟨by rfl, fun w' hs => by go_simp⟩) hH ?_
    try simp only [Act.put, List.setIfInBounds_toArray, List.set_cons_zero, List.set_cons_succ]
    refine wpAnyH_ready (rs := [9]) (by kernel_rfl) (by simp) ?_
    refine AllReadyH.cons (o := { dst := some 14, op := Op.call { callee := Callee.value (Operand.func 8), args := #[Operand.tmp 12, Operand.tmp 13, Operand.const (Value.int IntKind.i64 1), Operand.const (Value.int IntKind.i64 1)], argTypes := #[24, 25, 3, 3] }, type := 4, pos := "law.go:244", after := #[{ on := 7, ground := Ground.data }, { on := 8, ground := Ground.data }, { on := 6, ground := Ground.chain }, { on := 6, ground := Ground.guard }], guard := some (6, true) }) rfl (fun Kx hK => ?_) AllReadyH.nil
    go_simp
    refine (UPA.out _ os w2 E2.out.2 (SC.out.1.later E2.out.2) SC.out.2.1 (by have h1 := SC.out.2.2; omega)).mono ?_
    rintro e w9 ⟨rfl, b9⟩
    have E9 : Hid (Blk Q 24 (polL l s) w9 ∧ Below w.heap.size w w9) := ⟨E2.out.1.below b9, below_trans E2.out.2 b9⟩
    clear b9
    refine hK.out _ _ E9.out.1 (fun hH => ?_)
    try simp only [Act.put, List.setIfInBounds_toArray, List.set_cons_zero, List.set_cons_succ]
    refine wpAnyH_take (i := 10) (oi := { dst := some 15, op := Op.pick (Operand.tmp 11) (Operand.tmp 14) (Operand.const (Value.bool false)), type := 4, pos := "law.go:244", after := #[{ on := 6, ground := Ground.data }, { on := 9, ground := Ground.data }], guard := none }) (v := .bool true) rfl (by kernel_rfl) (by kernel_rfl) (by kernel_rfl) (fun _ _ _ h => h) (Or.inl ⟨by rfl, fun w' hs => by go_simp⟩) hH ?_
    try simp only [Act.put, List.setIfInBounds_toArray, List.set_cons_zero, List.set_cons_succ]
    refine wpAnyH_take (i := 11) (oi := { dst := some 4, op := Op.assign (Operand.tmp 15), type := 4, pos := "law.go:244", after := #[{ on := 10, ground := Ground.data }, { on := 9, ground := Ground.chain }, { on := 0, ground := Ground.phase }, { on := 1, ground := Ground.phase }, { on := 2, ground := Ground.phase }, { on := 3, ground := Ground.phase }, { on := 4, ground := Ground.phase }, { on := 5, ground := Ground.phase }, { on := 6, ground := Ground.phase }, { on := 7, ground := Ground.phase }, { on := 8, ground := Ground.phase }, { on := 9, ground := Ground.phase }, { on := 10, ground := Ground.phase }], guard := none }) (v := .bool true) rfl (by kernel_rfl) (by kernel_rfl) (by kernel_rfl) (fun _ _ _ h => h) (Or.inl ⟨by rfl, fun w' hs => by go_simp⟩) hH ?_
    try simp only [Act.put, List.setIfInBounds_toArray, List.set_cons_zero, List.set_cons_succ]
    refine wpAnyH_done (by kernel_rfl) ?_ _
    clear hH hK
    go_wp2_with fail
    go_ret
    exact ⟨rfl, E9.out.2⟩
  · have bA := below_alloc w0.drew (.cells #[.int .i64 1, .bool false, .int .i64 0, .int .i64 0, .slice none 0 0] 30)
    obtain ⟨wq, hwq⟩ : ∃ wq, w0.drew.alloc (.cells #[.int .i64 1, .bool false, .int .i64 0, .int .i64 0, .slice none 0 0] 30) = wq := ⟨_, rfl⟩
    have BQ : Hid (Below w0.heap.size w0 wq ∧ Blk w0.heap.size 30 [.int .i64 1, .bool false, .int .i64 0, .int .i64 0, .slice none 0 0] wq) := by
      rw [← hwq]
      exact ⟨⟨bA.os, bA.tape, bA.output, bA.size, bA.block⟩, Blk.new _ [.int .i64 1, .bool false, .int .i64 0, .int .i64 0, .slice none 0 0] w0.drew⟩
    go_simp
    clear hwq bA
    refine hK.out _ _ (S0.out.1.below BQ.out.1) (fun hH => ?_)
    try simp only [Act.put, List.setIfInBounds_toArray, List.set_cons_zero, List.set_cons_succ]
    refine wpAnyH_ready (rs := [1]) (by kernel_rfl) (by simp) ?_
    refine AllReadyH.cons (o := { dst := some 6, op := Op.call { callee := Callee.value (Operand.func 9), args := #[], argTypes := #[] }, type := 25, pos := "law.go:244", after := #[], guard := none }) rfl (fun Kx hK => ?_) AllReadyH.nil
    go_simp
    refine (first_at _).mono ?_
    rintro e w3 ⟨rfl, r1, d1, b1⟩
    have E3 : Hid (Blk Q 24 (polL l s) w3 ∧ Below w.heap.size w w3 ∧ w3.ownsRow wq.heap.size 30 5 (.slice (some ⟨wq.heap.size + 1, 0, none⟩) 4 4) 4 ((first4 wq.heap.size).flatMap ocX) ∧ Blk w0.heap.size 30 (ocX addX) w3 ∧ RdB w3 (.slice (some ⟨wq.heap.size, 0, none⟩) 2 2) [1, 2] ∧ wq.heap.size ≤ w3.heap.size) := ⟨(S0.out.1.below BQ.out.1).below b1, below_trans (below_trans S0.out.2 BQ.out.1) b1, r1, BQ.out.2.below b1, d1, b1.size⟩
    have FBW : Hid (w.heap.size ≤ wq.heap.size) := Nat.le_trans S0.out.2.size BQ.out.1.size
    clear r1 d1 b1
    refine hK.out _ _ E3.out.1 (fun hH => ?_)
    try simp only [Act.put, List.setIfInBounds_toArray, List.set_cons_zero, List.set_cons_succ]
    refine wpAnyH_ready (rs := [4]) (by kernel_rfl) (by simp) ?_
    refine AllReadyH.cons (o := { dst := some 9, op := Op.call { callee := Callee.builtin Builtin.append, args := #[Operand.tmp 6, Operand.tmp 8], argTypes := #[25, 25] }, type := 25, pos := "law.go:244", after := #[{ on := 1, ground := Ground.data }, { on := 3, ground := Ground.data }, { on := 1, ground := Ground.chain }], guard := none }) rfl (fun Kx hK => ?_) AllReadyH.nil
    refine step_append_lies _ rfl (.tmp 6) (.tmp 8) 25 rfl wq.heap.size 30 ix (.agg #[.int .i64 0, .bool false, .int .i64 0, .int .i64 0, .slice none 0 0]) 5 56 Try.underlying25 hx0 hx1 hx2 hx3 rfl (by decide) (.slice (some ⟨wq.heap.size + 1, 0, none⟩) 4 4) 4 ((first4 wq.heap.size).flatMap ocX) rfl E3.out.2.2.1 ⟨w0.heap.size, 0, none⟩ 1 1 (ocX addX) rfl rfl (fun j u hj => by rw [addr_litC, Nat.zero_add]; exact E3.out.2.2.2.1.cell j u hj) (ocX_one addX) (by decide) (by unfold maxLen; omega) (by omega) E3.out.2.2.2.2.2 _ rfl ?_
    intro g4 c4 w4 r4 gr4 _ _
    have E4 : Hid (Blk Q 24 (polL l s) w4 ∧ Below w.heap.size w w4 ∧ RdOc w4 (.slice (some ⟨g4, 0, none⟩) (4 + 1) c4) ((first4 wq.heap.size ++ [addX]).map (·.1))) := by
      have q := E3.out
      have kq := Kp.of_grown gr4
      have nq : ∀ x, Blk x 24 (polL l s) w3 → ¬ ((Value.slice (some ⟨wq.heap.size + 1, 0, none⟩) 4 4).ownBlock = some x) := fun x hx e => by
        obtain ⟨_, _, h1⟩ := own_heap q.2.2.1 e
        exact ne_ty h1 hx (by decide) rfl
      refine ⟨q.1.kp kq (nq _ q.1), below_kp q.2.1 kq (fun g e => Nat.le_trans FBW.out (own_heap q.2.2.1 e).1), rdOc_row (by simpa [List.flatMap_append, show (first4 wq.heap.size).length = 4 from rfl] using r4) (fun x hx => ?_)⟩
      rcases List.mem_append.1 hx with hx | hx
      · refine first4_rd (q.2.2.2.2.1.kp kq (fun g hg e => ?_)) x hx
        have e1 : wq.heap.size = g := by simpa [Value.ownBlock] using hg
        have e2 : wq.heap.size + 1 = g := by simpa [Value.ownBlock] using e
        omega
      · rw [List.mem_singleton.1 hx]
        exact rdb_nil w4
    clear r4 gr4
    refine hK.out _ _ E4.out.1 (fun hH => ?_)
    try simp only [Act.put, List.setIfInBounds_toArray, List.set_cons_zero, List.set_cons_succ]
    refine wpAnyH_ready (rs := [5]) (by kernel_rfl) (by simp) ?_
    refine AllReadyH.cons (o := { dst := some 10, op := Op.call { callee := Callee.value (Operand.func 8), args := #[Operand.tmp 5, Operand.tmp 9, Operand.const (Value.int IntKind.i64 1), Operand.const (Value.int IntKind.i64 1)], argTypes := #[24, 25, 3, 3] }, type := 4, pos := "law.go:244", after := #[{ on := 0, ground := Ground.data }, { on := 4, ground := Ground.data }, { on := 4, ground := Ground.chain }], guard := none }) rfl (fun Kx hK => ?_) AllReadyH.nil
    go_simp
    refine (UPA.out _ _ w4 E4.out.2.1 E4.out.2.2 (fun o ho => ?_) (by show 5 ≤ _; decide)).mono ?_
    · rw [List.map_append] at ho
      rcases List.mem_append.1 ho with ho | ho
      · exact first4_ok _ o ho
      · simp only [List.map_cons, List.map_nil, List.mem_singleton] at ho
        subst ho
        exact ⟨⟨⟨by decide, by decide⟩, ⟨by decide, by decide⟩, ⟨by decide, by decide⟩⟩, by decide⟩
    rintro e w2 ⟨rfl, b2⟩
    have E2 : Hid (Blk Q 24 (polL l s) w2 ∧ Below w.heap.size w w2) := ⟨E4.out.1.below b2, below_trans E4.out.2.1 b2⟩
    clear b2 E4 E3
    refine hK.out _ _ E2.out.1 (fun hH => ?_)
    try simp only [Act.put, List.setIfInBounds_toArray, List.set_cons_zero, List.set_cons_succ]
    refine wpAnyH_take (i := 6) (oi := { dst := some 11, op := Op.move (Operand.tmp 10), type := 4, pos := "law.go:244", after := #[{ on := 5, ground := Ground.data }, { on := 5, ground := Ground.chain }], guard := none }) (v := .bool true) rfl (by kernel_rfl) (by kernel_rfl) (by kernel_rfl) (fun _ _ _ h => h) (Or.inl ⟨by rfl, fun w' hs => by go_simp⟩) hH ?_
    try simp only [Act.put, List.setIfInBounds_toArray, List.set_cons_zero, List.set_cons_succ]
    refine wpAnyH_take (i := 7) (oi := { dst := some 12, op := Op.load 24 (Operand.tmp 2), type := 24, pos := "law.go:244", after := #[{ on := 6, ground := Ground.guard }], guard := some (6, true) }) (v := .agg (polL l s : List Value).toArray) rfl (by kernel_rfl) (by kernel_rfl) (by kernel_rfl) (fun _ _ _ h => h) (yieldsIf_load_mid (by rfl) _ _ rfl _ 0 rfl (polL l s) _ (fun w' h => h.all) Try.underlying24 rfl SZP.out) hH ?_
    try simp only [Act.put, List.setIfInBounds_toArray, List.set_cons_zero, List.set_cons_succ]
    refine wpAnyH_take (i := 8) (oi := { dst := some 13, op := Op.move (Operand.tmp 1), type := 25, pos := "law.go:244", after := #[{ on := 6, ground := Ground.guard }], guard := some (6, true) }) (v := .slice a n c) rfl (by kernel_rfl) (by kernel_rfl) (by kernel_rfl) (fun _ _ _ h => h) (Or.inl ⟨by rfl, fun w' hs => by go_simp⟩) hH ?_
    try simp only [Act.put, List.setIfInBounds_toArray, List.set_cons_zero, List.set_cons_succ]
    refine wpAnyH_ready (rs := [9]) (by kernel_rfl) (by simp) ?_
    refine AllReadyH.cons (o := { dst := some 14, op := Op.call { callee := Callee.value (Operand.func 8), args := #[Operand.tmp 12, Operand.tmp 13, Operand.const (Value.int IntKind.i64 1), Operand.const (Value.int IntKind.i64 1)], argTypes := #[24, 25, 3, 3] }, type := 4, pos := "law.go:244", after := #[{ on := 7, ground := Ground.data }, { on := 8, ground := Ground.data }, { on := 6, ground := Ground.chain }, { on := 6, ground := Ground.guard }], guard := some (6, true) }) rfl (fun Kx hK => ?_) AllReadyH.nil
    go_simp
    refine (UPA.out _ os w2 E2.out.2 (SC.out.1.later E2.out.2) SC.out.2.1 (by have h1 := SC.out.2.2; omega)).mono ?_
    rintro e w9 ⟨rfl, b9⟩
    have E9 : Hid (Blk Q 24 (polL l s) w9 ∧ Below w.heap.size w w9) := ⟨E2.out.1.below b9, below_trans E2.out.2 b9⟩
    clear b9
    refine hK.out _ _ E9.out.1 (fun hH => ?_)
    try simp only [Act.put, List.setIfInBounds_toArray, List.set_cons_zero, List.set_cons_succ]
    refine wpAnyH_take (i := 10) (oi := { dst := some 15, op := Op.pick (Operand.tmp 11) (Operand.tmp 14) (Operand.const (Value.bool false)), type := 4, pos := "law.go:244", after := #[{ on := 6, ground := Ground.data }, { on := 9, ground := Ground.data }], guard := none }) (v := .bool true) rfl (by kernel_rfl) (by kernel_rfl) (by kernel_rfl) (fun _ _ _ h => h) (Or.inl ⟨by rfl, fun w' hs => by go_simp⟩) hH ?_
    try simp only [Act.put, List.setIfInBounds_toArray, List.set_cons_zero, List.set_cons_succ]
    refine wpAnyH_take (i := 11) (oi := { dst := some 4, op := Op.assign (Operand.tmp 15), type := 4, pos := "law.go:244", after := #[{ on := 10, ground := Ground.data }, { on := 9, ground := Ground.chain }, { on := 0, ground := Ground.phase }, { on := 1, ground := Ground.phase }, { on := 2, ground := Ground.phase }, { on := 3, ground := Ground.phase }, { on := 4, ground := Ground.phase }, { on := 5, ground := Ground.phase }, { on := 6, ground := Ground.phase }, { on := 7, ground := Ground.phase }, { on := 8, ground := Ground.phase }, { on := 9, ground := Ground.phase }, { on := 10, ground := Ground.phase }], guard := none }) (v := .bool true) rfl (by kernel_rfl) (by kernel_rfl) (by kernel_rfl) (fun _ _ _ h => h) (Or.inl ⟨by rfl, fun w' hs => by go_simp⟩) hH ?_
    try simp only [Act.put, List.setIfInBounds_toArray, List.set_cons_zero, List.set_cons_succ]
    refine wpAnyH_done (by kernel_rfl) ?_ _
    clear hH hK
    go_wp2_with fail
    go_ret
    exact ⟨rfl, E9.out.2⟩
end Go.Proofs.Yteppdlaoeoeplaa
