/-
  Ours: OutboxExact (gen_obh.py: THE SEAT's OWN NUMBERS).
-/
import Derived.Test.YteppdlaoeoeplaaObLawA
import Derived.Deep.AppendLies
namespace Go.Proofs.Yteppdlaoeoeplaa
open Go.RowKit ObM LedM PolM
set_option linter.unusedSimpArgs false

theorem pend_ok (t : Bool) : OcOk (⟨4, t, 0, 0, []⟩ : Oc) ∧ (⟨4, t, 0, 0, []⟩ : Oc).bs.length ≤ 1048576 := by
  refine ⟨⟨⟨?_, ?_⟩, ⟨?_, ?_⟩, ⟨?_, ?_⟩⟩, ?_⟩ <;> simp
/-- What the copied script and the two questions behind it are. -/
theorem exact_row {w w4 w5 : World} {Q : Nat} {l : List Int} {s : Value} {xs : List OcX} {ra : Option Addr} {rn rc g5 c5 n : Nat} (hn : xs.length = n) (q1 : Blk Q 24 (polL l s) w4) (q2 : Below w.heap.size w w4) (q3 : w4.ownsRow w.heap.size 30 5 (.slice ra rn rc) n (xs.flatMap ocX)) (q4 : ∀ x ∈ xs, RdB w (.slice x.2.1 x.1.bs.length x.2.2) x.1.bs)
    (r5 : w5.ownsRow w.heap.size 30 5 (.slice (some ⟨g5, 0, none⟩) (n + 2) c5) (n + 2) (xs.flatMap ocX ++ [.int .i64 4, .bool false, .int .i64 0, .int .i64 0, .slice none 0 0, .int .i64 4, .bool true, .int .i64 0, .int .i64 0, .slice none 0 0])) (gr : w4.grownBy w5 (Value.slice ra rn rc).ownBlock) (hok : ∀ o ∈ xs.map (·.1), OcOk o ∧ o.bs.length ≤ 1048576) (hN : xs.length ≤ 1048576) :
    Blk Q 24 (polL l s) w5 ∧ Below w.heap.size w w5 ∧ RdOc w5 (.slice (some ⟨g5, 0, none⟩) (n + 2) c5) ((xs ++ [pendX false, pendX true]).map (·.1)) ∧ (∀ o ∈ (xs ++ [pendX false, pendX true]).map (·.1), OcOk o ∧ o.bs.length ≤ 1048576) ∧ ((xs ++ [pendX false, pendX true]).map (·.1)).length ≤ 1048590 := by
  subst hn
  have k := Kp.of_grown gr
  have b5 := below_kp q2 k (fun g e => (own_heap q3 e).1)
  refine ⟨q1.kp k (fun e => ?_), b5, rdOc_row (base := w.heap.size) (by rw [List.length_append, List.flatMap_append]; exact r5) (fun x hx => ?_), fun o ho => ?_, by rw [List.length_map, List.length_append]; show _ + 2 ≤ _; omega⟩
  · obtain ⟨_, _, h1⟩ := own_heap q3 e
    exact ne_ty h1 q1 (by decide) rfl
  · rcases List.mem_append.1 hx with hx | hx
    · exact Rd.later (q4 x hx) b5
    · simp only [List.mem_cons, List.not_mem_nil, or_false] at hx
      rcases hx with rfl | rfl
      · exact rdb_nil w5
      · exact rdb_nil w5
  · rw [List.map_append] at ho
    rcases List.mem_append.1 ho with ho | ho
    · exact hok o ho
    · simp only [List.map_cons, List.map_nil, List.mem_cons, List.not_mem_nil, or_false] at ho
      rcases ho with rfl | rfl
      · exact pend_ok false
      · exact pend_ok true
set_option maxRecDepth 40000 in
set_option maxHeartbeats 4000000 in
theorem outboxExact_any (l hs : List Int) (s : Value) (os : List Oc) (a : Option Addr) (n c : Nat) (w : World) (hl : l.length = 17) (hr : Rd w s (bkL hs)) (hb : hs.length ≤ 1048576) (hO : RdOc w (.slice a n c) os) (hok : ∀ o ∈ os, OcOk o ∧ o.bs.length ≤ 1048576) (hn : os.length = n) (hN : n ≤ 1048576) :
    Calls Try.prog 7 #[.agg (polL l s).toArray, .slice a n c] w fun e w' => e = .returned (.bool true) ∧ Below w.heap.size w w' := by
  obtain ⟨ix, hx0, hx1, hx2, hx3⟩ := info_parts infoOx
  have SZP : Hid ((Try.prog.info? 24).map (·.size) = some (polL l s).length) := by show _ = _; rw [polL_len hl]; exact sizeP
  have UPA : Hid (∀ (v : Value) (xs : List Oc) (w' : World), Below w.heap.size w w' → RdOc w' v xs → (∀ o ∈ xs, OcOk o ∧ o.bs.length ≤ 1048576) → xs.length ≤ 1048590 → Calls Try.prog 8 #[.agg (polL l s).toArray, v, .int .i64 1, .int .i64 4] w' fun e w'' => e = .returned (.bool true) ∧ Below w'.heap.size w' w'') := fun v xs w' b r ok nn => upTo_at l hs s xs v 1 4 w' hl (hr.later b) (by omega) r ok nn
  have SC : Hid (RdOc w (.slice a n c) os ∧ (∀ o ∈ os, OcOk o ∧ o.bs.length ≤ 1048576) ∧ os.length = n ∧ n ≤ 1048576) := ⟨hO, hok, hn, hN⟩
  obtain ⟨Q, hQ⟩ : ∃ Q, w.heap.size = Q := ⟨_, rfl⟩
  obtain ⟨w0, hw0⟩ : ∃ w0, w.alloc (.cells (polL l s).toArray 24) = w0 := ⟨_, rfl⟩
  have S0 : Hid (Blk Q 24 (polL l s) w0 ∧ Below w.heap.size w w0) := by
    rw [← hw0, ← hQ]
    exact ⟨Blk.new _ _ _, below_alloc _ _⟩
  clear hl hr hb hO hok hn hN
  by_cases h0 : n = 0
  · subst h0
    have E4 : Hid (Blk Q 24 (polL l s) w0 ∧ Below w.heap.size w w0 ∧ True) := ⟨S0.out.1, S0.out.2, trivial⟩
    cases a with
    | none =>
      go_enter Try.func7, Try.ntmps7
      go_upto_region 3 with fail
      clear hQ hw0
      have bA := below_alloc w0 (.cells #[.int .i64 4, .bool false, .int .i64 0, .int .i64 0, .slice none 0 0, .int .i64 4, .bool true, .int .i64 0, .int .i64 0, .slice none 0 0] 30)
      have row5 := own_kp (World.ownsRow_nil w0 w.heap.size 30 5) (Kp.of_below bA (fun _ => False)) (fun _ _ q => q)
      have new5 : Hid (Blk w0.heap.size 30 [.int .i64 4, .bool false, .int .i64 0, .int .i64 0, .slice none 0 0, .int .i64 4, .bool true, .int .i64 0, .int .i64 0, .slice none 0 0] (w0.alloc (.cells #[.int .i64 4, .bool false, .int .i64 0, .int .i64 0, .slice none 0 0, .int .i64 4, .bool true, .int .i64 0, .int .i64 0, .slice none 0 0] 30))) := Blk.new _ [.int .i64 4, .bool false, .int .i64 0, .int .i64 0, .slice none 0 0, .int .i64 4, .bool true, .int .i64 0, .int .i64 0, .slice none 0 0] _
      have sz5 : w.heap.size ≤ (w0.alloc (.cells #[.int .i64 4, .bool false, .int .i64 0, .int .i64 0, .slice none 0 0, .int .i64 4, .bool true, .int .i64 0, .int .i64 0, .slice none 0 0] 30)).heap.size := (below_trans E4.out.2.1 bA).size
      have FIN5 : Hid (∀ g5 c5 w5, w5.ownsRow w.heap.size 30 5 (.slice (some ⟨g5, 0, none⟩) (0 + 2) c5) (0 + 2) ((([] : List OcX)).flatMap ocX ++ [.int .i64 4, .bool false, .int .i64 0, .int .i64 0, .slice none 0 0, .int .i64 4, .bool true, .int .i64 0, .int .i64 0, .slice none 0 0]) → (w0.alloc (.cells #[.int .i64 4, .bool false, .int .i64 0, .int .i64 0, .slice none 0 0, .int .i64 4, .bool true, .int .i64 0, .int .i64 0, .slice none 0 0] 30)).grownBy w5 (.slice none 0 0 : Value).ownBlock → Blk Q 24 (polL l s) w5 ∧ Below w.heap.size w w5 ∧ RdOc w5 (.slice (some ⟨g5, 0, none⟩) (0 + 2) c5) ((([] : List OcX) ++ [pendX false, pendX true]).map (·.1)) ∧ (∀ o ∈ (([] : List OcX) ++ [pendX false, pendX true]).map (·.1), OcOk o ∧ o.bs.length ≤ 1048576) ∧ ((([] : List OcX) ++ [pendX false, pendX true]).map (·.1)).length ≤ 1048590) := fun g5 c5 w5 r5 gr5 => exact_row rfl (E4.out.1.below bA) (below_trans E4.out.2.1 bA) (own_kp (World.ownsRow_nil w0 w.heap.size 30 5) (Kp.of_below bA (fun _ => False)) (fun _ _ q => q)) (fun x hx => nomatch hx) r5 gr5 (fun o ho => nomatch ho) (by simp)
      have on5 : ∀ v ∈ ([.int .i64 4, .bool false, .int .i64 0, .int .i64 0, .slice none 0 0, .int .i64 4, .bool true, .int .i64 0, .int .i64 0, .slice none 0 0] : List Value), v.oneCell' = true := by
        intro v hv
        simp only [List.mem_cons, List.not_mem_nil, or_false] at hv
        rcases hv with rfl | rfl | rfl | rfl | rfl | rfl | rfl | rfl | rfl | rfl <;> rfl
      have k1 : 0 + 2 ≤ maxLen := by unfold maxLen; omega
      have k2 : (0 + 2) * 56 ≤ 140737488355328 := by omega
      go_upto_region 4 with (at_builtin; refine wpList_append_lies _ rfl (.tmp 9) (.tmp 12) 25 rfl w.heap.size 30 ix (.agg #[.int .i64 0, .bool false, .int .i64 0, .int .i64 0, .slice none 0 0]) 5 56 Try.underlying25 hx0 hx1 hx2 hx3 rfl (by decide) (.slice none 0 0) 0 ((([] : List OcX)).flatMap ocX) rfl row5 ⟨w0.heap.size, 0, none⟩ 2 2 [.int .i64 4, .bool false, .int .i64 0, .int .i64 0, .slice none 0 0, .int .i64 4, .bool true, .int .i64 0, .int .i64 0, .slice none 0 0] rfl rfl (fun j u hj => by rw [addr_litC, Nat.zero_add]; exact new5.out.cell j u hj) on5 (by decide) k1 k2 sz5 _ rfl ?_; intro g5 c5 w5 r5 gr5 _ _)
      have E5 := FIN5.out g5 c5 w5 r5 gr5
      have E5 : Hid (Blk Q 24 (polL l s) w5 ∧ Below w.heap.size w w5 ∧ RdOc w5 (.slice (some ⟨g5, 0, none⟩) (0 + 2) c5) ((([] : List OcX) ++ [pendX false, pendX true]).map (·.1)) ∧ (∀ o ∈ (([] : List OcX) ++ [pendX false, pendX true]).map (·.1), OcOk o ∧ o.bs.length ≤ 1048576) ∧ ((([] : List OcX) ++ [pendX false, pendX true]).map (·.1)).length ≤ 1048590) := E5
      clear r5 gr5 row5 new5 sz5 on5 FIN5 bA k1 k2
      refine wp_region_held_drew (S := fun x => Blk Q 24 (polL l s) x) (by kernel_rfl) (E5.out.1) (fun hH => ?_)
      refine wpAnyH_take (i := 0) (oi := { dst := some 14, op := Op.load 24 (Operand.tmp 2), type := 24, pos := "law.go:267", after := #[], guard := none }) (v := .agg (polL l s : List Value).toArray) rfl (by kernel_rfl) (by kernel_rfl) (by kernel_rfl) (fun _ _ _ h => h) (yieldsIf_load_mid (by rfl) _ _ rfl _ 0 rfl (polL l s) _ (fun w' h => h.all) Try.underlying24 rfl SZP.out) hH ?_
      try simp only [Act.put, List.setIfInBounds_toArray, List.set_cons_zero, List.set_cons_succ]
      refine wpAnyH_ready (rs := [1]) (by kernel_rfl) (by simp) ?_
      refine AllReadyH.cons (o := { dst := some 15, op := Op.call { callee := Callee.value (Operand.func 9), args := #[], argTypes := #[] }, type := 25, pos := "law.go:267", after := #[], guard := none }) rfl (fun Kx hK => ?_) AllReadyH.nil
      go_simp
      refine (first_at _).mono ?_
      rintro e w1 ⟨rfl, r1, d1, b1⟩
      have B1 : Hid (Below w5.heap.size w5 w1) := ⟨b1.os, b1.tape, b1.output, b1.size, b1.block⟩
      have E1 : Hid (Blk Q 24 (polL l s) w1 ∧ Below w.heap.size w w1 ∧ RdOc w1 (.slice (some ⟨w5.heap.size + 1, 0, none⟩) 4 4) ((first4 w5.heap.size).map (·.1))) := ⟨E5.out.1.below B1.out, below_trans E5.out.2.1 B1.out, rdOc_row r1 (first4_rd d1)⟩
      clear r1 d1 b1
      refine hK.out _ _ E1.out.1 (fun hH => ?_)
      try simp only [Act.put, List.setIfInBounds_toArray, List.set_cons_zero, List.set_cons_succ]
      refine wpAnyH_ready (rs := [2]) (by kernel_rfl) (by simp) ?_
      refine AllReadyH.cons (o := { dst := some 16, op := Op.call { callee := Callee.value (Operand.func 8), args := #[Operand.tmp 14, Operand.tmp 15, Operand.const (Value.int IntKind.i64 1), Operand.const (Value.int IntKind.i64 4)], argTypes := #[24, 25, 3, 3] }, type := 4, pos := "law.go:267", after := #[{ on := 0, ground := Ground.data }, { on := 1, ground := Ground.data }, { on := 1, ground := Ground.chain }], guard := none }) rfl (fun Kx hK => ?_) AllReadyH.nil
      go_simp
      refine (UPA.out _ _ w1 E1.out.2.1 E1.out.2.2 (first4_ok _) (by show 4 ≤ _; decide)).mono ?_
      rintro e w2 ⟨rfl, b2⟩
      have E2 : Hid (Blk Q 24 (polL l s) w2 ∧ Below w.heap.size w w2) := ⟨E1.out.1.below b2, below_trans E1.out.2.1 b2⟩
      have B2 : Hid (Below w5.heap.size w5 w2) := below_trans B1.out b2
      clear b2 E1 B1
      refine hK.out _ _ E2.out.1 (fun hH => ?_)
      try simp only [Act.put, List.setIfInBounds_toArray, List.set_cons_zero, List.set_cons_succ]
      refine wpAnyH_take (i := 3) (oi := { dst := some 17, op := Op.move (Operand.tmp 16), type := 4, pos := "law.go:267", after := #[{ on := 2, ground := Ground.data }, { on := 2, ground := Ground.chain }], guard := none }) (v := .bool true) rfl (by kernel_rfl) (by kernel_rfl) (by kernel_rfl) (fun _ _ _ h => h) (Or.inl ⟨by rfl, fun w' hs => by go_simp⟩) hH ?_
      try simp only [Act.put, List.setIfInBounds_toArray, List.set_cons_zero, List.set_cons_succ]
      refine wpAnyH_take (i := 4) (oi := { dst := some 18, op := Op.load 24 (Operand.tmp 2), type := 24, pos := "law.go:267", after := #[{ on := 3, ground := Ground.guard }], guard := some (3, true) }) (v := .agg (polL l s : List Value).toArray) rfl (by kernel_rfl) (by kernel_rfl) (by kernel_rfl) (fun _ _ _ h => h) (yieldsIf_load_mid (by rfl) _ _ rfl _ 0 rfl (polL l s) _ (fun w' h => h.all) Try.underlying24 rfl SZP.out) hH ?_
      try simp only [Act.put, List.setIfInBounds_toArray, List.set_cons_zero, List.set_cons_succ]
      refine wpAnyH_take (i := 5) (oi := { dst := some 19, op := Op.move (Operand.tmp 5), type := 25, pos := "law.go:267", after := #[{ on := 3, ground := Ground.guard }], guard := some (3, true) }) (v := .slice (some ⟨g5, 0, none⟩) (0 + 2) c5) rfl (by kernel_rfl) (by kernel_rfl) (by kernel_rfl) (fun _ _ _ h => h) (Or.inl ⟨by rfl, fun w' hs => by go_simp⟩) hH ?_
      try simp only [Act.put, List.setIfInBounds_toArray, List.set_cons_zero, List.set_cons_succ]
      refine wpAnyH_ready (rs := [6]) (by kernel_rfl) (by simp) ?_
      refine AllReadyH.cons (o := { dst := some 20, op := Op.call { callee := Callee.value (Operand.func 8), args := #[Operand.tmp 18, Operand.tmp 19, Operand.const (Value.int IntKind.i64 1), Operand.const (Value.int IntKind.i64 4)], argTypes := #[24, 25, 3, 3] }, type := 4, pos := "law.go:267", after := #[{ on := 4, ground := Ground.data }, { on := 5, ground := Ground.data }, { on := 3, ground := Ground.chain }, { on := 3, ground := Ground.guard }], guard := some (3, true) }) rfl (fun Kx hK => ?_) AllReadyH.nil
      go_simp
      refine (UPA.out _ _ w2 E2.out.2 (E5.out.2.2.1.later B2.out) E5.out.2.2.2.1 E5.out.2.2.2.2).mono ?_
      rintro e w9 ⟨rfl, b9⟩
      have E9 : Hid (Blk Q 24 (polL l s) w9 ∧ Below w.heap.size w w9) := ⟨E2.out.1.below b9, below_trans E2.out.2 b9⟩
      clear b9
      refine hK.out _ _ E9.out.1 (fun hH => ?_)
      try simp only [Act.put, List.setIfInBounds_toArray, List.set_cons_zero, List.set_cons_succ]
      refine wpAnyH_take (i := 7) (oi := { dst := some 21, op := Op.pick (Operand.tmp 17) (Operand.tmp 20) (Operand.const (Value.bool false)), type := 4, pos := "law.go:267", after := #[{ on := 3, ground := Ground.data }, { on := 6, ground := Ground.data }], guard := none }) (v := .bool true) rfl (by kernel_rfl) (by kernel_rfl) (by kernel_rfl) (fun _ _ _ h => h) (Or.inl ⟨by rfl, fun w' hs => by go_simp⟩) hH ?_
      try simp only [Act.put, List.setIfInBounds_toArray, List.set_cons_zero, List.set_cons_succ]
      refine wpAnyH_take (i := 8) (oi := { dst := some 4, op := Op.assign (Operand.tmp 21), type := 4, pos := "law.go:267", after := #[{ on := 7, ground := Ground.data }, { on := 6, ground := Ground.chain }, { on := 0, ground := Ground.phase }, { on := 1, ground := Ground.phase }, { on := 2, ground := Ground.phase }, { on := 3, ground := Ground.phase }, { on := 4, ground := Ground.phase }, { on := 5, ground := Ground.phase }, { on := 6, ground := Ground.phase }, { on := 7, ground := Ground.phase }], guard := none }) (v := .bool true) rfl (by kernel_rfl) (by kernel_rfl) (by kernel_rfl) (fun _ _ _ h => h) (Or.inl ⟨by rfl, fun w' hs => by go_simp⟩) hH ?_
      try simp only [Act.put, List.setIfInBounds_toArray, List.set_cons_zero, List.set_cons_succ]
      refine wpAnyH_done (by kernel_rfl) ?_ _
      clear hH hK
      go_wp2_with fail
      go_ret
      exact ⟨rfl, E9.out.2⟩
    | some ad =>
      go_enter Try.func7, Try.ntmps7
      go_upto_region 3 with fail
      clear hQ hw0
      have bA := below_alloc w0 (.cells #[.int .i64 4, .bool false, .int .i64 0, .int .i64 0, .slice none 0 0, .int .i64 4, .bool true, .int .i64 0, .int .i64 0, .slice none 0 0] 30)
      have row5 := own_kp (World.ownsRow_nil w0 w.heap.size 30 5) (Kp.of_below bA (fun _ => False)) (fun _ _ q => q)
      have new5 : Hid (Blk w0.heap.size 30 [.int .i64 4, .bool false, .int .i64 0, .int .i64 0, .slice none 0 0, .int .i64 4, .bool true, .int .i64 0, .int .i64 0, .slice none 0 0] (w0.alloc (.cells #[.int .i64 4, .bool false, .int .i64 0, .int .i64 0, .slice none 0 0, .int .i64 4, .bool true, .int .i64 0, .int .i64 0, .slice none 0 0] 30))) := Blk.new _ [.int .i64 4, .bool false, .int .i64 0, .int .i64 0, .slice none 0 0, .int .i64 4, .bool true, .int .i64 0, .int .i64 0, .slice none 0 0] _
      have sz5 : w.heap.size ≤ (w0.alloc (.cells #[.int .i64 4, .bool false, .int .i64 0, .int .i64 0, .slice none 0 0, .int .i64 4, .bool true, .int .i64 0, .int .i64 0, .slice none 0 0] 30)).heap.size := (below_trans E4.out.2.1 bA).size
      have FIN5 : Hid (∀ g5 c5 w5, w5.ownsRow w.heap.size 30 5 (.slice (some ⟨g5, 0, none⟩) (0 + 2) c5) (0 + 2) ((([] : List OcX)).flatMap ocX ++ [.int .i64 4, .bool false, .int .i64 0, .int .i64 0, .slice none 0 0, .int .i64 4, .bool true, .int .i64 0, .int .i64 0, .slice none 0 0]) → (w0.alloc (.cells #[.int .i64 4, .bool false, .int .i64 0, .int .i64 0, .slice none 0 0, .int .i64 4, .bool true, .int .i64 0, .int .i64 0, .slice none 0 0] 30)).grownBy w5 (.slice none 0 0 : Value).ownBlock → Blk Q 24 (polL l s) w5 ∧ Below w.heap.size w w5 ∧ RdOc w5 (.slice (some ⟨g5, 0, none⟩) (0 + 2) c5) ((([] : List OcX) ++ [pendX false, pendX true]).map (·.1)) ∧ (∀ o ∈ (([] : List OcX) ++ [pendX false, pendX true]).map (·.1), OcOk o ∧ o.bs.length ≤ 1048576) ∧ ((([] : List OcX) ++ [pendX false, pendX true]).map (·.1)).length ≤ 1048590) := fun g5 c5 w5 r5 gr5 => exact_row rfl (E4.out.1.below bA) (below_trans E4.out.2.1 bA) (own_kp (World.ownsRow_nil w0 w.heap.size 30 5) (Kp.of_below bA (fun _ => False)) (fun _ _ q => q)) (fun x hx => nomatch hx) r5 gr5 (fun o ho => nomatch ho) (by simp)
      have on5 : ∀ v ∈ ([.int .i64 4, .bool false, .int .i64 0, .int .i64 0, .slice none 0 0, .int .i64 4, .bool true, .int .i64 0, .int .i64 0, .slice none 0 0] : List Value), v.oneCell' = true := by
        intro v hv
        simp only [List.mem_cons, List.not_mem_nil, or_false] at hv
        rcases hv with rfl | rfl | rfl | rfl | rfl | rfl | rfl | rfl | rfl | rfl <;> rfl
      have k1 : 0 + 2 ≤ maxLen := by unfold maxLen; omega
      have k2 : (0 + 2) * 56 ≤ 140737488355328 := by omega
      go_upto_region 4 with (at_builtin; refine wpList_append_lies _ rfl (.tmp 9) (.tmp 12) 25 rfl w.heap.size 30 ix (.agg #[.int .i64 0, .bool false, .int .i64 0, .int .i64 0, .slice none 0 0]) 5 56 Try.underlying25 hx0 hx1 hx2 hx3 rfl (by decide) (.slice none 0 0) 0 ((([] : List OcX)).flatMap ocX) rfl row5 ⟨w0.heap.size, 0, none⟩ 2 2 [.int .i64 4, .bool false, .int .i64 0, .int .i64 0, .slice none 0 0, .int .i64 4, .bool true, .int .i64 0, .int .i64 0, .slice none 0 0] rfl rfl (fun j u hj => by rw [addr_litC, Nat.zero_add]; exact new5.out.cell j u hj) on5 (by decide) k1 k2 sz5 _ rfl ?_; intro g5 c5 w5 r5 gr5 _ _)
      have E5 := FIN5.out g5 c5 w5 r5 gr5
      have E5 : Hid (Blk Q 24 (polL l s) w5 ∧ Below w.heap.size w w5 ∧ RdOc w5 (.slice (some ⟨g5, 0, none⟩) (0 + 2) c5) ((([] : List OcX) ++ [pendX false, pendX true]).map (·.1)) ∧ (∀ o ∈ (([] : List OcX) ++ [pendX false, pendX true]).map (·.1), OcOk o ∧ o.bs.length ≤ 1048576) ∧ ((([] : List OcX) ++ [pendX false, pendX true]).map (·.1)).length ≤ 1048590) := E5
      clear r5 gr5 row5 new5 sz5 on5 FIN5 bA k1 k2
      refine wp_region_held_drew (S := fun x => Blk Q 24 (polL l s) x) (by kernel_rfl) (E5.out.1) (fun hH => ?_)
      refine wpAnyH_take (i := 0) (oi := { dst := some 14, op := Op.load 24 (Operand.tmp 2), type := 24, pos := "law.go:267", after := #[], guard := none }) (v := .agg (polL l s : List Value).toArray) rfl (by kernel_rfl) (by kernel_rfl) (by kernel_rfl) (fun _ _ _ h => h) (yieldsIf_load_mid (by rfl) _ _ rfl _ 0 rfl (polL l s) _ (fun w' h => h.all) Try.underlying24 rfl SZP.out) hH ?_
      try simp only [Act.put, List.setIfInBounds_toArray, List.set_cons_zero, List.set_cons_succ]
      refine wpAnyH_ready (rs := [1]) (by kernel_rfl) (by simp) ?_
      refine AllReadyH.cons (o := { dst := some 15, op := Op.call { callee := Callee.value (Operand.func 9), args := #[], argTypes := #[] }, type := 25, pos := "law.go:267", after := #[], guard := none }) rfl (fun Kx hK => ?_) AllReadyH.nil
      go_simp
      refine (first_at _).mono ?_
      rintro e w1 ⟨rfl, r1, d1, b1⟩
      have B1 : Hid (Below w5.heap.size w5 w1) := ⟨b1.os, b1.tape, b1.output, b1.size, b1.block⟩
      have E1 : Hid (Blk Q 24 (polL l s) w1 ∧ Below w.heap.size w w1 ∧ RdOc w1 (.slice (some ⟨w5.heap.size + 1, 0, none⟩) 4 4) ((first4 w5.heap.size).map (·.1))) := ⟨E5.out.1.below B1.out, below_trans E5.out.2.1 B1.out, rdOc_row r1 (first4_rd d1)⟩
      clear r1 d1 b1
      refine hK.out _ _ E1.out.1 (fun hH => ?_)
      try simp only [Act.put, List.setIfInBounds_toArray, List.set_cons_zero, List.set_cons_succ]
      refine wpAnyH_ready (rs := [2]) (by kernel_rfl) (by simp) ?_
      refine AllReadyH.cons (o := { dst := some 16, op := Op.call { callee := Callee.value (Operand.func 8), args := #[Operand.tmp 14, Operand.tmp 15, Operand.const (Value.int IntKind.i64 1), Operand.const (Value.int IntKind.i64 4)], argTypes := #[24, 25, 3, 3] }, type := 4, pos := "law.go:267", after := #[{ on := 0, ground := Ground.data }, { on := 1, ground := Ground.data }, { on := 1, ground := Ground.chain }], guard := none }) rfl (fun Kx hK => ?_) AllReadyH.nil
      go_simp
      refine (UPA.out _ _ w1 E1.out.2.1 E1.out.2.2 (first4_ok _) (by show 4 ≤ _; decide)).mono ?_
      rintro e w2 ⟨rfl, b2⟩
      have E2 : Hid (Blk Q 24 (polL l s) w2 ∧ Below w.heap.size w w2) := ⟨E1.out.1.below b2, below_trans E1.out.2.1 b2⟩
      have B2 : Hid (Below w5.heap.size w5 w2) := below_trans B1.out b2
      clear b2 E1 B1
      refine hK.out _ _ E2.out.1 (fun hH => ?_)
      try simp only [Act.put, List.setIfInBounds_toArray, List.set_cons_zero, List.set_cons_succ]
      refine wpAnyH_take (i := 3) (oi := { dst := some 17, op := Op.move (Operand.tmp 16), type := 4, pos := "law.go:267", after := #[{ on := 2, ground := Ground.data }, { on := 2, ground := Ground.chain }], guard := none }) (v := .bool true) rfl (by kernel_rfl) (by kernel_rfl) (by kernel_rfl) (fun _ _ _ h => h) (Or.inl ⟨by rfl, fun w' hs => by go_simp⟩) hH ?_
      try simp only [Act.put, List.setIfInBounds_toArray, List.set_cons_zero, List.set_cons_succ]
      refine wpAnyH_take (i := 4) (oi := { dst := some 18, op := Op.load 24 (Operand.tmp 2), type := 24, pos := "law.go:267", after := #[{ on := 3, ground := Ground.guard }], guard := some (3, true) }) (v := .agg (polL l s : List Value).toArray) rfl (by kernel_rfl) (by kernel_rfl) (by kernel_rfl) (fun _ _ _ h => h) (yieldsIf_load_mid (by rfl) _ _ rfl _ 0 rfl (polL l s) _ (fun w' h => h.all) Try.underlying24 rfl SZP.out) hH ?_
      try simp only [Act.put, List.setIfInBounds_toArray, List.set_cons_zero, List.set_cons_succ]
      refine wpAnyH_take (i := 5) (oi := { dst := some 19, op := Op.move (Operand.tmp 5), type := 25, pos := "law.go:267", after := #[{ on := 3, ground := Ground.guard }], guard := some (3, true) }) (v := .slice (some ⟨g5, 0, none⟩) (0 + 2) c5) rfl (by kernel_rfl) (by kernel_rfl) (by kernel_rfl) (fun _ _ _ h => h) (Or.inl ⟨by rfl, fun w' hs => by go_simp⟩) hH ?_
      try simp only [Act.put, List.setIfInBounds_toArray, List.set_cons_zero, List.set_cons_succ]
      refine wpAnyH_ready (rs := [6]) (by kernel_rfl) (by simp) ?_
      refine AllReadyH.cons (o := { dst := some 20, op := Op.call { callee := Callee.value (Operand.func 8), args := #[Operand.tmp 18, Operand.tmp 19, Operand.const (Value.int IntKind.i64 1), Operand.const (Value.int IntKind.i64 4)], argTypes := #[24, 25, 3, 3] }, type := 4, pos := "law.go:267", after := #[{ on := 4, ground := Ground.data }, { on := 5, ground := Ground.data }, { on := 3, ground := Ground.chain }, { on := 3, ground := Ground.guard }], guard := some (3, true) }) rfl (fun Kx hK => ?_) AllReadyH.nil
      go_simp
      refine (UPA.out _ _ w2 E2.out.2 (E5.out.2.2.1.later B2.out) E5.out.2.2.2.1 E5.out.2.2.2.2).mono ?_
      rintro e w9 ⟨rfl, b9⟩
      have E9 : Hid (Blk Q 24 (polL l s) w9 ∧ Below w.heap.size w w9) := ⟨E2.out.1.below b9, below_trans E2.out.2 b9⟩
      clear b9
      refine hK.out _ _ E9.out.1 (fun hH => ?_)
      try simp only [Act.put, List.setIfInBounds_toArray, List.set_cons_zero, List.set_cons_succ]
      refine wpAnyH_take (i := 7) (oi := { dst := some 21, op := Op.pick (Operand.tmp 17) (Operand.tmp 20) (Operand.const (Value.bool false)), type := 4, pos := "law.go:267", after := #[{ on := 3, ground := Ground.data }, { on := 6, ground := Ground.data }], guard := none }) (v := .bool true) rfl (by kernel_rfl) (by kernel_rfl) (by kernel_rfl) (fun _ _ _ h => h) (Or.inl ⟨by rfl, fun w' hs => by go_simp⟩) hH ?_
      try simp only [Act.put, List.setIfInBounds_toArray, List.set_cons_zero, List.set_cons_succ]
      refine wpAnyH_take (i := 8) (oi := { dst := some 4, op := Op.assign (Operand.tmp 21), type := 4, pos := "law.go:267", after := #[{ on := 7, ground := Ground.data }, { on := 6, ground := Ground.chain }, { on := 0, ground := Ground.phase }, { on := 1, ground := Ground.phase }, { on := 2, ground := Ground.phase }, { on := 3, ground := Ground.phase }, { on := 4, ground := Ground.phase }, { on := 5, ground := Ground.phase }, { on := 6, ground := Ground.phase }, { on := 7, ground := Ground.phase }], guard := none }) (v := .bool true) rfl (by kernel_rfl) (by kernel_rfl) (by kernel_rfl) (fun _ _ _ h => h) (Or.inl ⟨by rfl, fun w' hs => by go_simp⟩) hH ?_
      try simp only [Act.put, List.setIfInBounds_toArray, List.set_cons_zero, List.set_cons_succ]
      refine wpAnyH_done (by kernel_rfl) ?_ _
      clear hH hK
      go_wp2_with fail
      go_ret
      exact ⟨rfl, E9.out.2⟩
  · obtain ⟨xs, g, off, rfl, hxo, hcell, hrd⟩ := rdOc_split SC.out.1 (by omega)
    have XL : Hid (xs.length = n) := by have := congrArg List.length hxo; rw [List.length_map] at this; exact this.trans SC.out.2.2.1
    have XO : Hid (xs.map (·.1) = os) := hxo
    have XC : Hid (∀ j u, (xs.flatMap ocX)[j]? = some u → w.cell? ⟨g, off + j, none⟩ = some u) := hcell
    have XR : Hid (∀ x ∈ xs, RdB w (.slice x.2.1 x.1.bs.length x.2.2) x.1.bs) := hrd
    have nw : ∀ j u, (xs.flatMap ocX)[j]? = some u → w0.cell? ((⟨g, off, none⟩ : Addr).add j) = some u := fun j u hj => by
      have c0 := XC.out j u hj
      rw [addr_litC]
      exact (S0.out.2.cell (p := ⟨g, off + j, none⟩) (World.block_lt_of_cell? w _ c0)).trans c0
    have xl5 : (xs.flatMap ocX).length = n * 5 := by rw [fmX_len, XL.out]
    have n0 : 0 < n := by omega
    have nle : n ≤ 1048576 := SC.out.2.2.2
    have k1 : 0 + n ≤ maxLen := by unfold maxLen; omega
    have k2 : (0 + n) * 56 ≤ 140737488355328 := by omega
    have sz0 : w.heap.size ≤ w0.heap.size := S0.out.2.size
    have one0 := ocX_all xs
    clear hxo hcell hrd h0
    obtain ⟨us, hus⟩ : ∃ us, xs.flatMap ocX = us := ⟨_, rfl⟩
    have HUS : Hid (xs.flatMap ocX = us) := hus
    rw [hus] at nw xl5 one0
    clear hus
    go_enter Try.func7, Try.ntmps7
    go_upto_region 3 with (at_builtin; refine wpList_append_lies _ rfl (.tmp 6) (.tmp 7) 25 rfl w.heap.size 30 ix (.agg #[.int .i64 0, .bool false, .int .i64 0, .int .i64 0, .slice none 0 0]) 5 56 Try.underlying25 hx0 hx1 hx2 hx3 rfl (by decide) (.slice none 0 0) 0 [] rfl (World.ownsRow_nil _ _ _ _) ⟨g, off, none⟩ n c us rfl xl5 nw one0 n0 k1 k2 sz0 _ rfl ?_; intro g4 c4 w4 r4 gr4 _ _; simp only [Nat.zero_add, List.nil_append] at r4 ⊢)
    clear hQ hw0
    have E4 : Hid (Blk Q 24 (polL l s) w4 ∧ Below w.heap.size w w4 ∧ w4.ownsRow w.heap.size 30 5 (.slice (some ⟨g4, 0, none⟩) n c4) n (xs.flatMap ocX)) := by
      have b4 : Below w0.heap.size w0 w4 := below_none gr4
      exact ⟨S0.out.1.below b4, below_trans S0.out.2 b4, by rw [HUS.out]; exact r4⟩
    clear r4 gr4 nw xl5 one0 k1 k2 sz0 S0
    have bA := below_alloc w4 (.cells #[.int .i64 4, .bool false, .int .i64 0, .int .i64 0, .slice none 0 0, .int .i64 4, .bool true, .int .i64 0, .int .i64 0, .slice none 0 0] 30)
    have row5 := own_kp (E4.out.2.2) (Kp.of_below bA (fun _ => False)) (fun _ _ q => q)
    have new5 : Hid (Blk w4.heap.size 30 [.int .i64 4, .bool false, .int .i64 0, .int .i64 0, .slice none 0 0, .int .i64 4, .bool true, .int .i64 0, .int .i64 0, .slice none 0 0] (w4.alloc (.cells #[.int .i64 4, .bool false, .int .i64 0, .int .i64 0, .slice none 0 0, .int .i64 4, .bool true, .int .i64 0, .int .i64 0, .slice none 0 0] 30))) := Blk.new _ [.int .i64 4, .bool false, .int .i64 0, .int .i64 0, .slice none 0 0, .int .i64 4, .bool true, .int .i64 0, .int .i64 0, .slice none 0 0] _
    have sz5 : w.heap.size ≤ (w4.alloc (.cells #[.int .i64 4, .bool false, .int .i64 0, .int .i64 0, .slice none 0 0, .int .i64 4, .bool true, .int .i64 0, .int .i64 0, .slice none 0 0] 30)).heap.size := (below_trans E4.out.2.1 bA).size
    have FIN5 : Hid (∀ g5 c5 w5, w5.ownsRow w.heap.size 30 5 (.slice (some ⟨g5, 0, none⟩) (n + 2) c5) (n + 2) ((xs).flatMap ocX ++ [.int .i64 4, .bool false, .int .i64 0, .int .i64 0, .slice none 0 0, .int .i64 4, .bool true, .int .i64 0, .int .i64 0, .slice none 0 0]) → (w4.alloc (.cells #[.int .i64 4, .bool false, .int .i64 0, .int .i64 0, .slice none 0 0, .int .i64 4, .bool true, .int .i64 0, .int .i64 0, .slice none 0 0] 30)).grownBy w5 (.slice (some ⟨g4, 0, none⟩) n c4 : Value).ownBlock → Blk Q 24 (polL l s) w5 ∧ Below w.heap.size w w5 ∧ RdOc w5 (.slice (some ⟨g5, 0, none⟩) (n + 2) c5) ((xs ++ [pendX false, pendX true]).map (·.1)) ∧ (∀ o ∈ (xs ++ [pendX false, pendX true]).map (·.1), OcOk o ∧ o.bs.length ≤ 1048576) ∧ ((xs ++ [pendX false, pendX true]).map (·.1)).length ≤ 1048590) := fun g5 c5 w5 r5 gr5 => exact_row XL.out (E4.out.1.below bA) (below_trans E4.out.2.1 bA) (own_kp (E4.out.2.2) (Kp.of_below bA (fun _ => False)) (fun _ _ q => q)) (XR.out) r5 gr5 (by rw [XO.out]; exact SC.out.2.1) (by rw [XL.out]; exact SC.out.2.2.2)
    have on5 : ∀ v ∈ ([.int .i64 4, .bool false, .int .i64 0, .int .i64 0, .slice none 0 0, .int .i64 4, .bool true, .int .i64 0, .int .i64 0, .slice none 0 0] : List Value), v.oneCell' = true := by
      intro v hv
      simp only [List.mem_cons, List.not_mem_nil, or_false] at hv
      rcases hv with rfl | rfl | rfl | rfl | rfl | rfl | rfl | rfl | rfl | rfl <;> rfl
    have k1 : n + 2 ≤ maxLen := by unfold maxLen; omega
    have k2 : (n + 2) * 56 ≤ 140737488355328 := by omega
    go_upto_region 4 with (at_builtin; refine wpList_append_lies _ rfl (.tmp 9) (.tmp 12) 25 rfl w.heap.size 30 ix (.agg #[.int .i64 0, .bool false, .int .i64 0, .int .i64 0, .slice none 0 0]) 5 56 Try.underlying25 hx0 hx1 hx2 hx3 rfl (by decide) (.slice (some ⟨g4, 0, none⟩) n c4) n ((xs).flatMap ocX) rfl row5 ⟨w4.heap.size, 0, none⟩ 2 2 [.int .i64 4, .bool false, .int .i64 0, .int .i64 0, .slice none 0 0, .int .i64 4, .bool true, .int .i64 0, .int .i64 0, .slice none 0 0] rfl rfl (fun j u hj => by rw [addr_litC, Nat.zero_add]; exact new5.out.cell j u hj) on5 (by decide) k1 k2 sz5 _ rfl ?_; intro g5 c5 w5 r5 gr5 _ _)
    have E5 := FIN5.out g5 c5 w5 r5 gr5
    have E5 : Hid (Blk Q 24 (polL l s) w5 ∧ Below w.heap.size w w5 ∧ RdOc w5 (.slice (some ⟨g5, 0, none⟩) (n + 2) c5) ((xs ++ [pendX false, pendX true]).map (·.1)) ∧ (∀ o ∈ (xs ++ [pendX false, pendX true]).map (·.1), OcOk o ∧ o.bs.length ≤ 1048576) ∧ ((xs ++ [pendX false, pendX true]).map (·.1)).length ≤ 1048590) := E5
    clear r5 gr5 row5 new5 sz5 on5 FIN5 bA k1 k2
    refine wp_region_held_drew (S := fun x => Blk Q 24 (polL l s) x) (by kernel_rfl) (E5.out.1) (fun hH => ?_)
    refine wpAnyH_take (i := 0) (oi := { dst := some 14, op := Op.load 24 (Operand.tmp 2), type := 24, pos := "law.go:267", after := #[], guard := none }) (v := .agg (polL l s : List Value).toArray) rfl (by kernel_rfl) (by kernel_rfl) (by kernel_rfl) (fun _ _ _ h => h) (yieldsIf_load_mid (by rfl) _ _ rfl _ 0 rfl (polL l s) _ (fun w' h => h.all) Try.underlying24 rfl SZP.out) hH ?_
    try simp only [Act.put, List.setIfInBounds_toArray, List.set_cons_zero, List.set_cons_succ]
    refine wpAnyH_ready (rs := [1]) (by kernel_rfl) (by simp) ?_
    refine AllReadyH.cons (o := { dst := some 15, op := Op.call { callee := Callee.value (Operand.func 9), args := #[], argTypes := #[] }, type := 25, pos := "law.go:267", after := #[], guard := none }) rfl (fun Kx hK => ?_) AllReadyH.nil
    go_simp
    refine (first_at _).mono ?_
    rintro e w1 ⟨rfl, r1, d1, b1⟩
    have B1 : Hid (Below w5.heap.size w5 w1) := ⟨b1.os, b1.tape, b1.output, b1.size, b1.block⟩
    have E1 : Hid (Blk Q 24 (polL l s) w1 ∧ Below w.heap.size w w1 ∧ RdOc w1 (.slice (some ⟨w5.heap.size + 1, 0, none⟩) 4 4) ((first4 w5.heap.size).map (·.1))) := ⟨E5.out.1.below B1.out, below_trans E5.out.2.1 B1.out, rdOc_row r1 (first4_rd d1)⟩
    clear r1 d1 b1
    refine hK.out _ _ E1.out.1 (fun hH => ?_)
    try simp only [Act.put, List.setIfInBounds_toArray, List.set_cons_zero, List.set_cons_succ]
    refine wpAnyH_ready (rs := [2]) (by kernel_rfl) (by simp) ?_
    refine AllReadyH.cons (o := { dst := some 16, op := Op.call { callee := Callee.value (Operand.func 8), args := #[Operand.tmp 14, Operand.tmp 15, Operand.const (Value.int IntKind.i64 1), Operand.const (Value.int IntKind.i64 4)], argTypes := #[24, 25, 3, 3] }, type := 4, pos := "law.go:267", after := #[{ on := 0, ground := Ground.data }, { on := 1, ground := Ground.data }, { on := 1, ground := Ground.chain }], guard := none }) rfl (fun Kx hK => ?_) AllReadyH.nil
    go_simp
    refine (UPA.out _ _ w1 E1.out.2.1 E1.out.2.2 (first4_ok _) (by show 4 ≤ _; decide)).mono ?_
    rintro e w2 ⟨rfl, b2⟩
    have E2 : Hid (Blk Q 24 (polL l s) w2 ∧ Below w.heap.size w w2) := ⟨E1.out.1.below b2, below_trans E1.out.2.1 b2⟩
    have B2 : Hid (Below w5.heap.size w5 w2) := below_trans B1.out b2
    clear b2 E1 B1
    refine hK.out _ _ E2.out.1 (fun hH => ?_)
    try simp only [Act.put, List.setIfInBounds_toArray, List.set_cons_zero, List.set_cons_succ]
    refine wpAnyH_take (i := 3) (oi := { dst := some 17, op := Op.move (Operand.tmp 16), type := 4, pos := "law.go:267", after := #[{ on := 2, ground := Ground.data }, { on := 2, ground := Ground.chain }], guard := none }) (v := .bool true) rfl (by kernel_rfl) (by kernel_rfl) (by kernel_rfl) (fun _ _ _ h => h) (Or.inl ⟨by rfl, fun w' hs => by go_simp⟩) hH ?_
    try simp only [Act.put, List.setIfInBounds_toArray, List.set_cons_zero, List.set_cons_succ]
    refine wpAnyH_take (i := 4) (oi := { dst := some 18, op := Op.load 24 (Operand.tmp 2), type := 24, pos := "law.go:267", after := #[{ on := 3, ground := Ground.guard }], guard := some (3, true) }) (v := .agg (polL l s : List Value).toArray) rfl (by kernel_rfl) (by kernel_rfl) (by kernel_rfl) (fun _ _ _ h => h) (yieldsIf_load_mid (by rfl) _ _ rfl _ 0 rfl (polL l s) _ (fun w' h => h.all) Try.underlying24 rfl SZP.out) hH ?_
    try simp only [Act.put, List.setIfInBounds_toArray, List.set_cons_zero, List.set_cons_succ]
    refine wpAnyH_take (i := 5) (oi := { dst := some 19, op := Op.move (Operand.tmp 5), type := 25, pos := "law.go:267", after := #[{ on := 3, ground := Ground.guard }], guard := some (3, true) }) (v := .slice (some ⟨g5, 0, none⟩) (n + 2) c5) rfl (by kernel_rfl) (by kernel_rfl) (by kernel_rfl) (fun _ _ _ h => h) (Or.inl ⟨by rfl, fun w' hs => by go_simp⟩) hH ?_
    try simp only [Act.put, List.setIfInBounds_toArray, List.set_cons_zero, List.set_cons_succ]
    refine wpAnyH_ready (rs := [6]) (by kernel_rfl) (by simp) ?_
    refine AllReadyH.cons (o := { dst := some 20, op := Op.call { callee := Callee.value (Operand.func 8), args := #[Operand.tmp 18, Operand.tmp 19, Operand.const (Value.int IntKind.i64 1), Operand.const (Value.int IntKind.i64 4)], argTypes := #[24, 25, 3, 3] }, type := 4, pos := "law.go:267", after := #[{ on := 4, ground := Ground.data }, { on := 5, ground := Ground.data }, { on := 3, ground := Ground.chain }, { on := 3, ground := Ground.guard }], guard := some (3, true) }) rfl (fun Kx hK => ?_) AllReadyH.nil
    go_simp
    refine (UPA.out _ _ w2 E2.out.2 (E5.out.2.2.1.later B2.out) E5.out.2.2.2.1 E5.out.2.2.2.2).mono ?_
    rintro e w9 ⟨rfl, b9⟩
    have E9 : Hid (Blk Q 24 (polL l s) w9 ∧ Below w.heap.size w w9) := ⟨E2.out.1.below b9, below_trans E2.out.2 b9⟩
    clear b9
    refine hK.out _ _ E9.out.1 (fun hH => ?_)
    try simp only [Act.put, List.setIfInBounds_toArray, List.set_cons_zero, List.set_cons_succ]
    refine wpAnyH_take (i := 7) (oi := { dst := some 21, op := Op.pick (Operand.tmp 17) (Operand.tmp 20) (Operand.const (Value.bool false)), type := 4, pos := "law.go:267", after := #[{ on := 3, ground := Ground.data }, { on := 6, ground := Ground.data }], guard := none }) (v := .bool true) rfl (by kernel_rfl) (by kernel_rfl) (by kernel_rfl) (fun _ _ _ h => h) (Or.inl ⟨by rfl, fun w' hs => by go_simp⟩) hH ?_
    try simp only [Act.put, List.setIfInBounds_toArray, List.set_cons_zero, List.set_cons_succ]
    refine wpAnyH_take (i := 8) (oi := { dst := some 4, op := Op.assign (Operand.tmp 21), type := 4, pos := "law.go:267", after := #[{ on := 7, ground := Ground.data }, { on := 6, ground := Ground.chain }, { on := 0, ground := Ground.phase }, { on := 1, ground := Ground.phase }, { on := 2, ground := Ground.phase }, { on := 3, ground := Ground.phase }, { on := 4, ground := Ground.phase }, { on := 5, ground := Ground.phase }, { on := 6, ground := Ground.phase }, { on := 7, ground := Ground.phase }], guard := none }) (v := .bool true) rfl (by kernel_rfl) (by kernel_rfl) (by kernel_rfl) (fun _ _ _ h => h) (Or.inl ⟨by rfl, fun w' hs => by go_simp⟩) hH ?_
    try simp only [Act.put, List.setIfInBounds_toArray, List.set_cons_zero, List.set_cons_succ]
    refine wpAnyH_done (by kernel_rfl) ?_ _
    clear hH hK
    go_wp2_with fail
    go_ret
    exact ⟨rfl, E9.out.2⟩
end Go.Proofs.Yteppdlaoeoeplaa
