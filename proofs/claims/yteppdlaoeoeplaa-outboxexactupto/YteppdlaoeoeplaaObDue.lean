/-
  Ours: Due (gen_ob3.py: THE SEAT's OWN NUMBERS).
-/
import Derived.Test.YteppdlaoeoeplaaObIds
namespace Go.Proofs.Yteppdlaoeoeplaa
open Go.RowKit ObM LedM PolM
set_option linter.unusedSimpArgs false

theorem pol_range {R bm : Nat} {l : List Int} {w : World} (hl : l.length = 17) (h : Blk R 53 (polL l (.slice none 0 0) ++ [.map (some bm)]) w) : w.rangeAt R 0 (polL l (.slice none 0 0)) := by
  have := h.range 0 18
  rwa [List.drop_zero, show (18 : Nat) = (polL l (.slice none 0 0)).length from (polL_len hl).symm, List.take_left] at this
theorem cm_at {l : List Int} {bm : Nat} (hl : l.length = 17) : (polL l (.slice none 0 0) ++ [Value.map (some bm)])[18]? = some (.map (some bm)) := by
  rw [List.getElem?_append_right (by rw [polL_len hl]; omega), polL_len hl]; rfl
theorem sent_i64 {l : List Int} {now : Int} {x : En} (hn : i64 now) : i64 (sent (boL l []) now x).nx := lateN_ok hn (boL_ok l [] _).1
/-- One notice more was sent. -/
theorem BoxV.sent1 {R bm : Nat} {B : Nat → Prop} {l ids : List Int} {L : List En} {k : Nat} {now : Int} {x : En} {w w' : World} (h : BoxV R bm B l (aft (boL l []) now (ids.take k) L) w) (g : w.grownBy w' (some bm)) (m : MapAt bm ((aft (boL l []) now (ids.take k) L).map (fun z => if z.id = (sent (boL l []) now x).id then sent (boL l []) now x else z)) w')
    (e : (aft (boL l []) now (ids.take k) L).map (fun z => if z.id = x.id then sent (boL l []) now x else z) = aft (boL l []) now (ids.take (k + 1)) L) (hx : x ∈ aft (boL l []) now (ids.take k) L) (hn : i64 now) : OPost R bm B l w (aft (boL l []) now (ids.take (k + 1)) L) B w' := by
  have m' : MapAt bm (aft (boL l []) now (ids.take (k + 1)) L) w' := by rw [← e]; exact m
  have hr : Rise (aft (boL l []) now (ids.take (k + 1)) L) := by
    rw [← e]
    refine map_rise h.rise (fun z => ?_)
    split
    · rename_i q; exact q.symm
    · rfl
  refine ⟨h.wrote g m' hr h.b (fun z hz => ?_) (fun z hz => ?_), fun _ q => .inl q, fun _ q => q, kp_grown g⟩
  · rw [← e] at hz
    obtain ⟨y, hy, ey⟩ := List.mem_map.1 hz
    split at ey
    · subst ey; exact h.bd x hx
    · subst ey; exact h.bd y hy
  · rw [← e] at hz
    obtain ⟨y, hy, ey⟩ := List.mem_map.1 hz
    split at ey
    · subst ey
      have := h.ok x hx
      exact ⟨this.1, this.2.1, sent_i64 hn⟩
    · subst ey; exact h.ok y hy
theorem rd_at2 {w : World} {ao : Option Addr} {n c : Nat} {vs : List Value} (h : Rd w (.slice ao n c) vs) {i : Nat} {u : Value} (hu : vs[i]? = some u) : ∃ g o, ao = some ⟨g, o, none⟩ ∧ g < w.heap.size ∧ w.cell? ⟨g, o + i, none⟩ = some u := by
  obtain ⟨ao', c', e, h1, h2, h3⟩ := h
  obtain ⟨hi, rfl⟩ := List.getElem?_eq_some_iff.1 hu
  injection e with e _ _
  subst e
  exact h3 i hi
/-- What Due answers: packets in memory of their own. -/
def DueAns (R bm : Nat) (B : Nat → Prop) (l : List Int) (L : List En) (now : Int) (w : World) (e : Ending) (w' : World) : Prop :=
  ∃ a n c ps, e = .returned (.slice a n c) ∧ OutP w.heap.size w' (.slice a n c) ps ∧ ps.map (fun p => (p.id, p.bs)) = (dueL L now).map (fun x => (x.id, x.bs)) ∧ OPost R bm B l w (after (boL l []) now L) B w'
/-- The state of Due's loop. -/
structure DI (R bm : Nat) (B : Nat → Prop) (l : List Int) (L : List En) (now : Int) (w : World) (ids : List Int) (iv' v : Value) (k : Nat) (wr : World) (ps : List Pk) : Prop where
  post : OPost R bm B l w (aft (boL l []) now (ids.take k) L) B wr
  row : RowV 3 w.heap.size wr iv' (ids.map iv)
  out : OutP w.heap.size wr v ps
  eq : ps.map (fun p => (p.id, p.bs)) = ((dueL L now).take k).map (fun x => (x.id, x.bs))

set_option maxRecDepth 40000 in
set_option maxHeartbeats 4000000 in
theorem due_at (R bm : Nat) (B : Nat → Prop) (l : List Int) (L : List En) (now : Int) (w : World) (h : BoxV R bm B l L w) (hl : L.length ≤ 1000000000) (hn : i64 now) (ha : ∀ e ∈ L, 0 ≤ e.att ∧ e.att ≤ 1000000000000000) :
    Calls Try.prog 23 #[.pointer (some ⟨R, 0, none⟩), .int .i64 now] w (DueAns R bm B l L now w) := by
  obtain ⟨i0, hi, hz0, hz1, hz2⟩ := info_parts infoPk
  have ID := dueIDs_at R bm B l L now w h hl
  have W0 : Hid (BoxV R bm B l L w) := h
  have LL : Hid (l.length = 17) := h.ll
  have SZ : Hid ((Try.prog.info? 24).map (·.size) = some (polL l (.slice none 0 0)).length) := by show _ = _; rw [polL_len h.ll]; exact sizeP
  have CM : Hid ((polL l (.slice none 0 0) ++ [Value.map (some bm)])[18]? = some (.map (some bm))) := cm_at h.ll
  have RP : Hid (∀ w', Blk R 53 (polL l (.slice none 0 0) ++ [.map (some bm)]) w' → w'.rangeAt R 0 (polL l (.slice none 0 0))) := fun w' q => pol_range LL.out q
  have OKS : Hid (i64 now) := hn
  obtain ⟨ids, hids⟩ : ∃ ids, (dueL L now).map (·.id) = ids := ⟨_, rfl⟩
  have HI : Hid ((dueL L now).map (·.id) = ids ∧ ids.length = (dueL L now).length ∧ ids.length ≤ 1000000000) := ⟨hids, by rw [← hids, List.length_map], by rw [← hids, List.length_map]; exact Nat.le_trans (List.length_filter_le ..) hl⟩
  have HA : Hid (∀ e ∈ L, 0 ≤ e.att ∧ e.att ≤ 1000000000000000) := ha
  have LT : Hid (R < w.heap.size ∧ bm < w.heap.size ∧ ∀ g, B g → g < w.heap.size) := ⟨h.blk.lt, h.mp.lt, fun g hg => (h.b g hg).1⟩
  rw [hids] at ID
  clear h hl hn ha hids
  go_enter Try.func23, Try.ntmps23
  go_wp2_with fail
  refine ID.mono ?_
  rintro e w1 ⟨ia, im, ic, rfl, r1, b1⟩
  obtain ⟨n, hnn⟩ : ∃ n, ids.length = n := ⟨_, rfl⟩
  have HN : Hid (ids.length = n) := hnn
  have n9 : n ≤ 1000000000 := by rw [← hnn]; exact HI.out.2.2
  obtain rfl : im = n := by
    obtain ⟨_, _, q, _⟩ := (RowV.rd r1).len
    injection q with _ q _
    rw [q, List.length_map, hnn]
  have D1 : Hid (DI R bm B l L now w ids (.slice ia im ic) (.slice none 0 0) 0 w1 []) := ⟨by rw [List.take_zero, aft_nil]; exact OPost.refl W0.out b1, r1, Outs.nil _ _ _ _ _ _ _, by simp⟩
  clear r1 b1 ID hnn
  go_wp2_with fail
  go_loopw [5, 13] (fun v vk wr => ∃ k : Nat, ∃ ps a m c, vk = .int .i64 (k : Int) ∧ k ≤ im ∧ v = .slice a m c ∧ Hid (DI R bm B l L now w ids (.slice ia im ic) v k wr ps)) (fun _ vk _ => im - (intOf vk).toNat)
  case atStart => exact ⟨0, [], none, 0, 0, rfl, by omega, rfl, D1⟩
  case round =>
    obtain ⟨k, ps, va, vm, vc, rfl, hk, rfl, D⟩ := hrel
    clear D1
    by_cases hlt : (k : Int) < (im : Int)
    · have hk' : k < im := by omega
      have hkd : k < (dueL L now).length := by rw [← HI.out.2.1, HN.out]; exact hk'
      obtain ⟨x, hx⟩ : ∃ x, (dueL L now)[k]? = some x := ⟨_, List.getElem?_eq_getElem hkd⟩
      have hid : ids[k]? = some x.id := by rw [← HI.out.1, List.getElem?_map, hx]; rfl
      obtain ⟨ga, oa, rfl, lga, ca⟩ := rd_at2 (RowV.rd D.out.row) (i := k) (u := iv x.id) (by rw [List.getElem?_map, hid]; rfl)
      unfold iv at ca
      have hxL : x ∈ L := (List.mem_filter.1 (List.mem_of_getElem? hx)).1
      have hnotin : x.id ∉ ids.take k := by
        intro hm
        obtain ⟨j, hj, ej⟩ := List.getElem_of_mem hm
        rw [List.length_take] at hj
        rw [List.getElem_take] at ej
        have srt := ids_sorted (due_rise (now := now) W0.out.rise)
        rw [HI.out.1, List.pairwise_iff_getElem] at srt
        obtain ⟨hkl, ek⟩ := List.getElem?_eq_some_iff.1 hid
        have := srt j k (by omega) hkl (by omega)
        omega
      obtain ⟨lkx, aft1⟩ := aft_step (bo := boL l []) (now := now) W0.out.rise hxL rfl hnotin
      have tk : ids.take (k + 1) = ids.take k ++ [x.id] := by rw [List.take_add_one, hid]; rfl
      rw [← tk] at aft1
      have AFT : Hid ((aft (boL l []) now (ids.take k) L).map (fun z => if z.id = x.id then sent (boL l []) now x else z) = aft (boL l []) now (ids.take (k + 1)) L) := aft1
      have LKX : Hid (lk (aft (boL l []) now (ids.take k) L) (sent (boL l []) now x).id = some x) := lkx
      have XM : Hid (x ∈ aft (boL l []) now (ids.take k) L) := (lk_some lkx).1
      have LK := D.out.post.box.mp.look1 D.out.post.box.rise x.id
      rw [lkx] at LK
      simp only [Option.getD_some] at LK
      have DK : Hid (((dueL L now).take (k + 1)) = (dueL L now).take k ++ [x]) := by show _ = _; rw [List.take_add_one, hx]; rfl
      have PC : Hid (∀ w', Below wr.heap.size wr w' → Calls Try.prog 35 #[enV x] w' fun y w'' => ∃ a n c, y = .returned (.agg #[.bool false, .int .i64 x.id, .slice a n c]) ∧ RowB 5 w'.heap.size w'' (.slice a n c) x.bs ∧ Below w'.heap.size w' w'') := fun w' b => packet_at x w' ((D.out.post.box.below b).bd x XM.out).1.1 ((D.out.post.box.bd x XM.out).2)
      have SE : Hid (∀ w', Calls Try.prog 36 #[enV x, .int .i64 now, PV l (.slice none 0 0)] w' fun y w'' => y = .returned (enV (sent (boL l []) now x)) ∧ Below w'.heap.size w' w'') := fun w' => sent_at x now l [] _ w' OKS.out LL.out (RowV.rd (RowV.nil 3 0 w')) (by decide) (HA.out x hxL)
      have cm := D.out.post.box.cm
      have NZ : Hid (Blk wr.heap.size 78 (enL zEn) (wr.alloc (.cells #[.int .i64 0, .int .i64 0, .int .i64 0, .slice none 0 0] 78))) := Blk.new _ _ _
      have ltR : R < wr.heap.size := D.out.post.box.blk.lt
      clear hx hid hxL hnotin lkx aft1 tk hkd
      obtain ⟨G, hG⟩ : ∃ G, wr.heap.size = G := ⟨_, rfl⟩
      have HG : Hid (wr.heap.size = G) := hG
      rw [hG] at NZ
      go_upto_region 6 with (first
        | ((with_reducible refine at_store ?_); refine step_store rfl 78 _ _ rfl G 0 78 (enL zEn) (enL x) rfl rfl NZ.out (show 0 + 4 ≤ 4 by decide) sizeEn (enL_one _) ?_; intro w2 nb2 g2))
      have W2 : Hid (Blk G 78 (enL x) w2 ∧ Below wr.heap.size wr w2) := ⟨nb2, below_row (below_alloc _ _) g2 (by have := HG.out; omega)⟩
      clear nb2 g2 NZ LK ca cm hG ltR
      go_wp2_with (refine step_load rfl 78 _ rfl G 0 rfl (enL x) _ (Blk.all W2.out.1) Try.underlying78 rfl sizeEn ?_)
      refine (PC.out _ W2.out.2).mono ?_
      rintro y w3 ⟨a3, n3, c3, rfl, r3, b3⟩
      have W3 : Hid (Blk G 78 (enL x) w3 ∧ Below wr.heap.size wr w3 ∧ RowB 5 wr.heap.size w3 (.slice a3 n3 c3) x.bs) := ⟨W2.out.1.below b3, below_trans W2.out.2 b3, RowV.mono r3 W2.out.2.size⟩
      clear r3 b3 W2 PC
      have PL : Hid (ps.length = k) := by
        have := congrArg List.length D.out.eq
        rw [List.length_map, List.length_map, List.length_take] at this
        have := HI.out.2.1
        have := HN.out
        show _ = _
        omega
      have OW : Hid (w3.ownsRow w.heap.size 67 3 (.slice va vm vc) k (ps.flatMap pkL)) := by
        have := (D.out.out.below W3.out.2.1).row
        rwa [PL.out] at this
      have l1 : k + 1 ≤ maxLen := by unfold maxLen; omega
      have l2 : (k + 1) * 40 ≤ 140737488355328 := by omega
      have hsz3 : w.heap.size ≤ w3.heap.size := Nat.le_trans D.out.post.k.size W3.out.2.1.size
      go_upto_region 7 with (at_builtin; refine wpList_pushR rfl (.tmp 23) (.tmp 26) 43 rfl 67 i0 (.agg #[.bool false, .int .i64 0, .slice none 0 0]) 3 40 Try.underlying43 hi hz0 hz1 hz2 rfl (by decide) w.heap.size (.slice va vm vc) k (ps.flatMap pkL) (pkL ⟨x.id, a3, n3, c3, x.bs⟩) rfl (pkL_one _) rfl OW.out hsz3 rfl l1 l2 ?_; intro a4 n4 c4 w4 r4 g4 x4)
      have W4 : Hid (BoxV R bm B l (aft (boL l []) now (ids.take k) L) w4 ∧ Blk G 78 (enL x) w4 ∧ bm < G) := by
        have ge : ∀ q, (Value.slice va vm vc).ownBlock = some q → w.heap.size ≤ q ∧ q < wr.heap.size := fun q hq => ⟨(own_heap D.out.out.row hq).1, own_lt D.out.out.row hq⟩
        refine ⟨(D.out.post.box.below W3.out.2.1).kp (Kp.of_grown g4) (fun q => by have := ge _ q; have := LT.out.1; omega) (fun q => by have := ge _ q; have := LT.out.2.1; omega) (fun b hb q => by have := ge _ q; have := LT.out.2.2 b hb; omega), W3.out.1.grown g4 (fun q => by have := ge _ q; have := HG.out; omega), ?_⟩
        have := D.out.post.box.mp.lt
        have := HG.out
        omega
      have N4 : Hid (OutP w.heap.size w4 (.slice a4 n4 c4) (ps ++ [⟨x.id, a3, n3, c3, x.bs⟩]) ∧ (ps ++ [(⟨x.id, a3, n3, c3, x.bs⟩ : Pk)]).map (fun p => (p.id, p.bs)) = ((dueL L now).take (k + 1)).map (fun x => (x.id, x.bs)) ∧ RowV 3 w.heap.size w4 (.slice (some ⟨ga, oa, none⟩) im ic) (ids.map iv) ∧ Kp (fun q => q = bm) w w4) := by
        refine ⟨D.out.out.push (by decide) W3.out.2.1 D.out.post.k.size W3.out.2.2 (by rw [PL.out]; exact r4) g4, ?_, ?_, ?_⟩
        · rw [List.map_append, D.out.eq, DK.out, List.map_append]; rfl
        · refine RowV.kept (RowV.later D.out.row W3.out.2.1) g4 (fun q hq e => ?_)
          obtain ⟨_, c1, h1⟩ := own_heap (RowV.later D.out.row W3.out.2.1) hq
          obtain ⟨_, c2, h2⟩ := own_heap OW.out e
          exact ne_ty h1 h2 (by decide) rfl
        · refine (D.out.post.k.trans (Kp.of_below W3.out.2.1 (fun _ => False)) (fun _ _ q => q.elim)).trans (Kp.of_grown g4) (fun q hq e => ?_)
          have := (own_heap OW.out e).1
          omega
      clear r4 g4 x4 OW W3 hsz3 PL
      have cm4 := W4.out.1.cm
      refine wp_region_held_drew (S := fun w' => Blk G 78 (enL x) w' ∧ Blk R 53 (polL l (.slice none 0 0) ++ [.map (some bm)]) w') (by kernel_rfl) (⟨W4.out.2.1, W4.out.1.blk⟩) (fun hH => ?_)
      refine wpAnyH_take (i := 0) (oi := { dst := some 28, op := Op.move (Operand.tmp 0), type := 33, pos := "outbox.go:48", after := #[], guard := none }) (v := .pointer (some ⟨R, 0, none⟩)) rfl (by kernel_rfl) (by kernel_rfl) (by kernel_rfl) (fun _ _ _ h => h) (Or.inl ⟨by rfl, fun w' hs => by go_simp⟩) hH ?_
      try simp only [Act.put, List.setIfInBounds_toArray, List.set_cons_zero, List.set_cons_succ]
      refine wpAnyH_take (i := 1) (oi := { dst := some 29, op := Op.nilCheck (Operand.tmp 28), type := 0, pos := "outbox.go:48", after := #[{ on := 0, ground := Ground.data }], guard := none }) (v := .pointer (some ⟨R, 0, none⟩)) rfl (by kernel_rfl) (by kernel_rfl) (by kernel_rfl) (fun _ _ _ h => h) (Or.inl ⟨by rfl, fun w' hs => by go_simp⟩) hH ?_
      try simp only [Act.put, List.setIfInBounds_toArray, List.set_cons_zero, List.set_cons_succ]
      refine wpAnyH_take (i := 2) (oi := { dst := some 30, op := Op.fieldAddr 53 (Operand.tmp 29) 1, type := 0, pos := "outbox.go:48", after := #[{ on := 1, ground := Ground.data }], guard := none }) (v := .pointer (some ⟨R, 18, none⟩)) rfl (by kernel_rfl) (by kernel_rfl) (by kernel_rfl) (fun _ _ _ h => h) (Or.inl ⟨by rfl, fun w' hs => by go_simp⟩) hH ?_
      try simp only [Act.put, List.setIfInBounds_toArray, List.set_cons_zero, List.set_cons_succ]
      refine wpAnyH_take (i := 3) (oi := { dst := some 31, op := Op.load 51 (Operand.tmp 30), type := 51, pos := "outbox.go:48", after := #[{ on := 2, ground := Ground.data }], guard := none }) (v := .map (some bm)) rfl (by kernel_rfl) (by kernel_rfl) (by kernel_rfl) (fun _ _ _ h => h) (Or.inl ⟨by rfl, fun w' hs => by have c := hs.2.cell 18 _ (CM.out); go_simp⟩) hH ?_
      try simp only [Act.put, List.setIfInBounds_toArray, List.set_cons_zero, List.set_cons_succ]
      refine wpAnyH_take (i := 4) (oi := { dst := some 32, op := Op.move (Operand.tmp 7), type := 3, pos := "outbox.go:48", after := #[], guard := none }) (v := .int .i64 x.id) rfl (by kernel_rfl) (by kernel_rfl) (by kernel_rfl) (fun _ _ _ h => h) (Or.inl ⟨by rfl, fun w' hs => by go_simp⟩) hH ?_
      try simp only [Act.put, List.setIfInBounds_toArray, List.set_cons_zero, List.set_cons_succ]
      refine wpAnyH_take (i := 5) (oi := { dst := some 33, op := Op.load 78 (Operand.tmp 8), type := 78, pos := "outbox.go:48", after := #[], guard := none }) (v := .agg (enL x : List Value).toArray) rfl (by kernel_rfl) (by kernel_rfl) (by kernel_rfl) (fun _ _ _ h => h) (yieldsIf_load_mid (by rfl) _ _ rfl _ 0 rfl (enL x) _ (fun w' h => h.1.all) Try.underlying78 rfl sizeEn) hH ?_
      try simp only [Act.put, List.setIfInBounds_toArray, List.set_cons_zero, List.set_cons_succ]
      refine wpAnyH_take (i := 6) (oi := { dst := some 34, op := Op.move (Operand.tmp 1), type := 3, pos := "outbox.go:48", after := #[], guard := none }) (v := .int .i64 now) rfl (by kernel_rfl) (by kernel_rfl) (by kernel_rfl) (fun _ _ _ h => h) (Or.inl ⟨by rfl, fun w' hs => by go_simp⟩) hH ?_
      try simp only [Act.put, List.setIfInBounds_toArray, List.set_cons_zero, List.set_cons_succ]
      refine wpAnyH_take (i := 7) (oi := { dst := some 35, op := Op.move (Operand.tmp 0), type := 33, pos := "outbox.go:48", after := #[], guard := none }) (v := .pointer (some ⟨R, 0, none⟩)) rfl (by kernel_rfl) (by kernel_rfl) (by kernel_rfl) (fun _ _ _ h => h) (Or.inl ⟨by rfl, fun w' hs => by go_simp⟩) hH ?_
      try simp only [Act.put, List.setIfInBounds_toArray, List.set_cons_zero, List.set_cons_succ]
      refine wpAnyH_take (i := 8) (oi := { dst := some 36, op := Op.nilCheck (Operand.tmp 35), type := 0, pos := "outbox.go:48", after := #[{ on := 7, ground := Ground.data }], guard := none }) (v := .pointer (some ⟨R, 0, none⟩)) rfl (by kernel_rfl) (by kernel_rfl) (by kernel_rfl) (fun _ _ _ h => h) (Or.inl ⟨by rfl, fun w' hs => by go_simp⟩) hH ?_
      try simp only [Act.put, List.setIfInBounds_toArray, List.set_cons_zero, List.set_cons_succ]
      refine wpAnyH_take (i := 9) (oi := { dst := some 37, op := Op.fieldAddr 53 (Operand.tmp 36) 0, type := 0, pos := "outbox.go:48", after := #[{ on := 8, ground := Ground.data }], guard := none }) (v := .pointer (some ⟨R, 0, none⟩)) rfl (by kernel_rfl) (by kernel_rfl) (by kernel_rfl) (fun _ _ _ h => h) (Or.inl ⟨by rfl, fun w' hs => by go_simp⟩) hH ?_
      try simp only [Act.put, List.setIfInBounds_toArray, List.set_cons_zero, List.set_cons_succ]
      refine wpAnyH_take (i := 10) (oi := { dst := some 38, op := Op.load 24 (Operand.tmp 37), type := 24, pos := "outbox.go:48", after := #[{ on := 9, ground := Ground.data }], guard := none }) (v := .agg (polL l (.slice none 0 0) : List Value).toArray) rfl (by kernel_rfl) (by kernel_rfl) (by kernel_rfl) (fun _ _ _ h => h) (yieldsIf_load_mid (by rfl) _ _ rfl _ 0 rfl (polL l (.slice none 0 0)) _ (fun w' h => RP.out w' h.2) Try.underlying24 rfl SZ.out) hH ?_
      try simp only [Act.put, List.setIfInBounds_toArray, List.set_cons_zero, List.set_cons_succ]
      refine wpAnyH_ready (rs := [11]) (by kernel_rfl) (by simp) ?_
      refine AllReadyH.cons (o := { dst := some 39, op := Op.call { callee := Callee.value (Operand.func 36), args := #[Operand.tmp 33, Operand.tmp 34, Operand.tmp 38], argTypes := #[78, 3, 24] }, type := 78, pos := "outbox.go:48", after := #[{ on := 5, ground := Ground.data }, { on := 6, ground := Ground.data }, { on := 10, ground := Ground.data }], guard := none }) rfl (fun Kx hK => ?_) AllReadyH.nil
      go_simp
      refine (SE.out _).mono ?_
      rintro y w5 ⟨rfl, b5⟩
      replace b5 := below_undrew b5
      have W5 : Hid (BoxV R bm B l (aft (boL l []) now (ids.take k) L) w5 ∧ Blk G 78 (enL x) w5 ∧ Below w4.heap.size w4 w5) := ⟨W4.out.1.below b5, W4.out.2.1.below b5, b5⟩
      clear b5
      refine hK.out _ _ ⟨W5.out.2.1, W5.out.1.blk⟩ (fun hH => ?_)
      try simp only [Act.put, List.setIfInBounds_toArray, List.set_cons_zero, List.set_cons_succ]
      refine wpAnyH_ready (rs := [12]) (by kernel_rfl) (by simp) ?_
      refine AllReadyH.cons (o := { dst := none, op := Op.mapUpdate 51 (Operand.tmp 31) (Operand.tmp 32) (Operand.tmp 39), type := 0, pos := "outbox.go:48", after := #[{ on := 3, ground := Ground.data }, { on := 4, ground := Ground.data }, { on := 11, ground := Ground.data }, { on := 11, ground := Ground.chain }, { on := 0, ground := Ground.phase }, { on := 1, ground := Ground.phase }, { on := 2, ground := Ground.phase }, { on := 3, ground := Ground.phase }, { on := 4, ground := Ground.phase }, { on := 5, ground := Ground.phase }, { on := 6, ground := Ground.phase }, { on := 7, ground := Ground.phase }, { on := 8, ground := Ground.phase }, { on := 9, ground := Ground.phase }, { on := 10, ground := Ground.phase }, { on := 11, ground := Ground.phase }], guard := none }) rfl (fun Kx hK => ?_) AllReadyH.nil
      obtain ⟨w6, h6, m6, g6⟩ := MapAt.set (w := w5) W5.out.1.mp W5.out.1.rise (sent (boL l []) now x) LKX.out
      change (Instr.mapUpdate 51 (.map (some bm)) (.int .i64 x.id) (enV (sent (boL l []) now x))).run Try.prog w5 = _ at h6
      go_simp
      have W6 : Hid (OPost R bm B l w4 (aft (boL l []) now (ids.take (k + 1)) L) B w6 ∧ Blk G 78 (enL x) w6) := by
        refine ⟨(OPost.refl W4.out.1 W5.out.2.2).trans ?_, W5.out.2.1.grown g6 (fun q => by injection q with q; have := W4.out.2.2; omega)⟩
        exact BoxV.sent1 W5.out.1 g6 m6 AFT.out XM.out OKS.out
      clear m6 g6
      refine hK.out _ _ ⟨W6.out.2, W6.out.1.box.blk⟩ (fun hH => ?_)
      clear h6
      try simp only [Act.put, List.setIfInBounds_toArray, List.set_cons_zero, List.set_cons_succ]
      refine wpAnyH_done (by kernel_rfl) ?_ _
      clear hH hK W5
      go_wp2_with fail
      have D6 : Hid (DI R bm B l L now w ids (.slice (some ⟨ga, oa, none⟩) im ic) (.slice a4 n4 c4) (k + 1) w6 (ps ++ [⟨x.id, a3, n3, c3, x.bs⟩])) := by
        have kk := W6.out.1.k
        refine ⟨⟨W6.out.1.box, fun _ q => .inl q, fun _ q => q, N4.out.2.2.2.trans kk (fun _ _ q => q)⟩, RowV.kp N4.out.2.2.1 kk (fun q hq e => ?_), N4.out.1.kp kk (fun q hq e => ?_), N4.out.2.1⟩
        · have := RowV.block_ge N4.out.2.2.1 hq; have := LT.out.2.1; omega
        · have := LT.out.2.1; omega
      go_roundw
      case rel => exact ⟨k + 1, _, a4, n4, c4, by go_num, by omega, rfl, D6⟩
      case measure => simp [intOf]; omega
    · obtain rfl : k = im := by omega
      have FN : Hid (DueAns R bm B l L now w (.returned (.slice va vm vc)) wr) := by
        have e1 : ids.take k = ids := List.take_of_length_le (by rw [HN.out]; exact Nat.le_refl _)
        have e2 : (dueL L now).take k = dueL L now := List.take_of_length_le (by rw [← HI.out.2.1, HN.out]; exact Nat.le_refl _)
        have p := D.out.post
        have q := D.out.eq
        rw [e1, ← HI.out.1, aft_due W0.out.rise] at p
        rw [e2] at q
        exact ⟨va, vm, vc, ps, rfl, D.out.out, q, p⟩
      generalize DueAns R bm B l L now w = PP at *
      go_wp2_with fail
      exact FN.out
end Go.Proofs.Yteppdlaoeoeplaa
