/-
  Ours: the reference's Tick, walked (gen_nwrk.py: THE SEAT's OWN NUMBERS).
-/
import Derived.Test.YtcnhcdlbippjoaaNwRf9
import Derived.Deep.RegionHeld
namespace Go.Proofs.Ytcnhcdlbippjoaa
open Go.RowKit NwM
set_option linter.unusedSimpArgs false
theorem op_getB {ops : Array Oper} {op : Oper} {a : Act} {wr : World} {K : Act → World → Prop} {Q : Exit → Act → World → Prop} {E : Prop} {T : TypeId} (cs : List Value) (hgd : op.guard = Option.none) (x : Operand) (ho : op.op = .load T x)
    (G : Nat) (hx : a.eval x = .pointer (some ⟨G, 0, Option.none⟩)) (d : TypeDesc) (hb : Blk G T cs wr) (hu : Try.prog.underlying T = some d) (hd : d.isRow = true) (hi : (Try.prog.info? T).map (·.size) = some cs.length)
    (h : K (a.put op.dst (.agg cs.toArray)) wr) : if Region.wanted op (yielded ops a.tmps) = true then Oper.wp Try.prog op a wr K Q else E := by
  have hwd : Region.wanted op (yielded ops a.tmps) = true := by simp [Region.wanted, hgd]
  rw [if_pos hwd]
  unfold Oper.wp execOp
  simp only [ho, hx, Instr.loadAt, Instr.sureAddr, Sem.run_bind, Sem.run_pure, Result.andThen_ok, run_loadVar_mid wr G 0 T cs d hb.all hu hd hi]
  exact h
theorem op_putB {ops : Array Oper} {op : Oper} {a : Act} {wr : World} {K : Act → World → Prop} {Q : Exit → Act → World → Prop} {E : Prop} {T : TypeId} {zs : List Value} (vs : List Value) (hl : vs.length = zs.length) (hi : (Try.prog.info? T).map (·.size) = some vs.length) (h1 : ∀ v ∈ vs, v.oneCell' = true) (hgd : op.guard = Option.none) (x y : Operand) (ho : op.op = .store T x y)
    (G : Nat) (hx : a.eval x = .pointer (some ⟨G, 0, Option.none⟩)) (hy : a.eval y = .agg vs.toArray) (hb : Blk G T zs wr)
    (h : ∀ w', Blk G T vs w' → wr.grownBy w' (some G) → K (a.put op.dst undef) w') : if Region.wanted op (yielded ops a.tmps) = true then Oper.wp Try.prog op a wr K Q else E := by
  have hwd : Region.wanted op (yielded ops a.tmps) = true := by simp [Region.wanted, hgd]
  rw [if_pos hwd]
  unfold Oper.wp execOp
  simp only [ho, hx, hy, Instr.storeAt, Instr.sureAddr, Sem.run_bind, Sem.run_pure, Result.andThen_ok, run_storeVar_blk wr G 0 T T zs vs hb (by omega) hi h1]
  have nb := setRow_heap wr G _ (zs.take 0 ++ vs ++ zs.drop (0 + vs.length)).toArray T _ hb
  have g := setRow_grown wr G (zs.take 0 ++ vs ++ zs.drop (0 + vs.length)).toArray
  have e : zs.take 0 ++ vs ++ zs.drop (0 + vs.length) = vs := by rw [Nat.zero_add, hl, List.drop_length]; simp
  rw [e] at nb g ⊢
  exact h _ nb g
theorem sizeMs : (Try.prog.info? 84).map (·.size) = some 5 := by kernel_rfl
theorem sizeNt : (Try.prog.info? 34).map (·.size) = some 4 := by kernel_rfl
theorem nt4_one (n : Int) (a : Option Addr) (b c : Nat) (d : Option Addr) (e f : Nat) (g : Option Addr) (h i : Nat) : ∀ v ∈ [Value.int .i64 n, .slice a b c, .slice d e f, .slice g h i], v.oneCell' = true := fun v hv => by simp at hv; rcases hv with rfl | rfl | rfl | rfl <;> rfl
set_option maxRecDepth 40000 in
set_option maxHeartbeats 16000000 in
theorem rTick_at (C : Nat → Prop) (r : RNt) (w : World) (v : Value) (h : RefAt C w r v) (hac : r.ac.length ≤ 100000000) (hnow : r.now ≤ 100000000) (hms : r.ms.length ≤ 100000000) (hfs : ∀ f ∈ r.fs, isF f) :
    Calls Try.prog 19 #[v] w (fun e w' => ∃ v' a n c, e = .returned (.tuple #[v', .slice a n c]) ∧ RfPost C w (rtick r).1 v' w' ∧ RowV 3 w.heap.size w' (.slice a n c) ((rtick r).2.map iv)) := by
  obtain ⟨i0, hi0, hz0, hz1, hz2⟩ := info_parts infoMs
  obtain ⟨aa, an, ac, fa, fn, fc, ma, mn, mc, rfl, h⟩ := h
  have HF : Hid (r.ac.length ≤ 100000000 ∧ r.ms.length ≤ 100000000 ∧ ∀ f ∈ r.fs, isF f) := ⟨hac, hms, hfs⟩
  have HN : Hid (r.ms.length = mn) := by
    obtain ⟨_, _, ev⟩ := h.mss.len
    injection ev with _ ev _
    exact ev.symm
  have RV : Hid (RefV C w r aa an ac fa fn fc ma mn mc) := h
  have hms' : mn ≤ 100000000 := by rw [← HN.out]; exact hms
  clear h hac hms hfs
  go_enter Try.func19, Try.ntmps19
  go_wp2_with fail
  have K1 : Hid (Blk w.heap.size 34 [.int .i64 (((r.now : Nat) : Int) + 1), .slice aa an ac, .slice fa fn fc, .slice ma mn mc] ((w.alloc (.cells #[.int .i64 (((r.now : Nat) : Int) + 1), .slice aa an ac, .slice fa fn fc, .slice ma mn mc] 34)).alloc (.cells #[.int .i64 0, .slice none 0 0, .slice none 0 0, .slice none 0 0] 34)) ∧ Blk (w.heap.size + 1) 34 [.int .i64 0, .slice none 0 0, .slice none 0 0, .slice none 0 0] ((w.alloc (.cells #[.int .i64 (((r.now : Nat) : Int) + 1), .slice aa an ac, .slice fa fn fc, .slice ma mn mc] 34)).alloc (.cells #[.int .i64 0, .slice none 0 0, .slice none 0 0, .slice none 0 0] 34)) ∧ ((w.alloc (.cells #[.int .i64 (((r.now : Nat) : Int) + 1), .slice aa an ac, .slice fa fn fc, .slice ma mn mc] 34)).alloc (.cells #[.int .i64 0, .slice none 0 0, .slice none 0 0, .slice none 0 0] 34)).heap.size = w.heap.size + 2) := ⟨(Blk.new _ _ _).old _, Blk.new2 _ _ _ _, by simp⟩
  have KB : Hid (Below w.heap.size w ((w.alloc (.cells #[.int .i64 (((r.now : Nat) : Int) + 1), .slice aa an ac, .slice fa fn fc, .slice ma mn mc] 34)).alloc (.cells #[.int .i64 0, .slice none 0 0, .slice none 0 0, .slice none 0 0] 34))) := below_trans (below_alloc _ _) (below_alloc _ _)
  obtain ⟨Q, hQ⟩ : ∃ Q, w.heap.size = Q := ⟨_, rfl⟩
  rw [hQ] at K1 ⊢
  have HQ : Hid (w.heap.size = Q) := hQ
  clear hQ
  generalize (w.alloc (.cells #[.int .i64 (((r.now : Nat) : Int) + 1), .slice aa an ac, .slice fa fn fc, .slice ma mn mc] 34)).alloc (.cells #[.int .i64 0, .slice none 0 0, .slice none 0 0, .slice none 0 0] 34) = w1 at *
  go_loopw [7, 5, 6] (fun vk vd vl wr => ∃ k : Nat, ∃ da dn dc la ln lc, ∃ D L : List Ms, vk = .int .i64 (k : Int) ∧ vd = .slice da dn dc ∧ vl = .slice la ln lc ∧ k ≤ mn ∧ dn ≤ k ∧ ln ≤ k ∧ Hid (D.length = dn ∧ L.length = ln ∧ D = (r.ms.take k).filter (isDue (r.now + 1)) ∧ L = (r.ms.take k).filter (isLeft (r.now + 1))) ∧ Hid (TkR w1 D L (.slice da dn dc) (.slice la ln lc) wr)) (fun vk _ _ _ => mn - (intOf vk).toNat)
  case atStart => exact ⟨0, none, 0, 0, none, 0, 0, [], [], rfl, rfl, rfl, by omega, by omega, by omega, ⟨rfl, rfl, rfl, rfl⟩, World.ownsRow_nil _ _ _ _, World.ownsRow_nil _ _ _ _, fun g e => by simp [Value.ownBlock] at e, Below.refl _ _⟩
  case round =>
    obtain ⟨k, da, dn, dc, la, ln, lc, D, L, rfl, rfl, rfl, hk, hdn, hln, HD, TK0⟩ := hrel
    have q0 := (K1.out.1.below TK0.out.2.2.2).cell 0 _ rfl
    have q3 := (K1.out.1.below TK0.out.2.2.2).cell 3 _ rfl
    have lQ : Q < wr.heap.size := (K1.out.1.below TK0.out.2.2.2).lt
    by_cases hlt : (k : Int) < (mn : Int)
    · obtain ⟨x, hx⟩ : ∃ x, r.ms[k]? = some x := ⟨r.ms[k]'(by rw [HN.out]; omega), List.getElem?_eq_getElem _⟩
      obtain ⟨gm, rfl, lgm, y0, y1, y2, y3, y4⟩ := RowM.at (RV.out.below (below_trans KB.out TK0.out.2.2.2)).mss hx
      have HX : Hid (r.ms[k]? = some x) := hx
      have hkN : k < mn := by omega
      clear hx
      go_upto_region 8 with fail
      have MB : Hid (Blk wr.heap.size 84 (msL x) (wr.alloc (.cells #[.bool x.ack, .int .i64 x.id, .slice x.ba x.bn x.bc, .int .i64 ((x.at' : Nat) : Int), .int .i64 ((x.ag : Nat) : Int)] 84))) := Blk.new _ _ _
      have TK : Hid (TkR w1 D L (.slice da dn dc) (.slice la ln lc) (wr.alloc (.cells #[.bool x.ack, .int .i64 x.id, .slice x.ba x.bn x.bc, .int .i64 ((x.at' : Nat) : Int), .int .i64 ((x.ag : Nat) : Int)] 84))) := TK0.out.below (below_alloc _ _)
      have OL : Hid ((∀ g, (Value.slice da dn dc).ownBlock = some g → g < wr.heap.size) ∧ ∀ g, (Value.slice la ln lc).ownBlock = some g → g < wr.heap.size) := ⟨fun g e => own_lt TK0.out.1 e, fun g e => own_lt TK0.out.2.1 e⟩
      clear q0 q3 lQ y0 y1 y2 y3 y4 lgm TK0
      generalize wr.alloc (.cells #[.bool x.ack, .int .i64 x.id, .slice x.ba x.bn x.bc, .int .i64 ((x.at' : Nat) : Int), .int .i64 ((x.ag : Nat) : Int)] 84) = w7 at *
      obtain ⟨M, hM⟩ : ∃ M, wr.heap.size = M := ⟨_, rfl⟩
      rw [hM] at MB OL ⊢
      clear hM
      have c0 := MB.out.cell 0 _ rfl
      have c1 := MB.out.cell 1 _ rfl
      have c2 := MB.out.cell 2 _ rfl
      have c3 := MB.out.cell 3 _ rfl
      have c4 := MB.out.cell 4 _ rfl
      have lM := MB.out.lt
      have q0 := (K1.out.1.below TK.out.2.2.2).cell 0 _ rfl
      have q3 := (K1.out.1.below TK.out.2.2.2).cell 3 _ rfl
      have lQ := (K1.out.1.below TK.out.2.2.2).lt
      have bsz : w1.heap.size ≤ w7.heap.size := TK.out.2.2.2.size
      have TKd : Hid (w7.ownsRow w1.heap.size 84 5 (.slice da dn dc) dn (D.flatMap msL)) := by have := TK.out.1; unfold RowM at this; rw [HD.out.1] at this; exact this
      have TKl : Hid (w7.ownsRow w1.heap.size 84 5 (.slice la ln lc) ln (L.flatMap msL)) := by have := TK.out.2.1; unfold RowM at this; rw [HD.out.2.1] at this; exact this
      have l1 : dn + 1 ≤ maxLen := by unfold maxLen; omega
      have l2 : (dn + 1) * 56 ≤ 140737488355328 := by omega
      have m1 : ln + 1 ≤ maxLen := by unfold maxLen; omega
      have m2 : (ln + 1) * 56 ≤ 140737488355328 := by omega
      rcases Nat.lt_trichotomy x.at' (r.now + 1) with ha | ha | ha <;> rcases Nat.lt_trichotomy x.ag (r.now + 1) with hb | hb | hb
      · have ED : Hid (isDue (r.now + 1) x = false) := by show _ = _; unfold isDue; simp; omega
        have EL : Hid (isLeft (r.now + 1) x = false) := by show _ = _; unfold isLeft; simp; omega
        have e1 : (((x.at' : Nat) : Int) == ((r.now : Nat) : Int) + 1) = false := by simp; omega
        have e2 : (((x.ag : Nat) : Int) == ((r.now : Nat) : Int) + 1) = false := by simp; omega
        have e3 : ¬ ((r.now : Nat) : Int) + 1 < ((x.at' : Nat) : Int) := by omega
        have e4 : ¬ ((r.now : Nat) : Int) + 1 < ((x.ag : Nat) : Int) := by omega
        clear ha hb
        go_wp2_with fail
        go_roundw
        case rel =>
          refine ⟨k + 1, _, _, _, _, _, _, D, L, by go_num, rfl, rfl, by omega, by omega, by omega, ⟨?_, ?_, ?_, ?_⟩, TK.out⟩
          · exact HD.out.1
          · exact HD.out.2.1
          · rw [filter_step _ _ _ _ HX.out, ED.out, ← HD.out.2.2.1]; simp
          · rw [filter_step _ _ _ _ HX.out, EL.out, ← HD.out.2.2.2]; simp
        case measure => simp [intOf]; omega
      · have ED : Hid (isDue (r.now + 1) x = true) := by show _ = _; unfold isDue; simp; omega
        have EL : Hid (isLeft (r.now + 1) x = false) := by show _ = _; unfold isLeft; simp; omega
        have e1 : (((x.at' : Nat) : Int) == ((r.now : Nat) : Int) + 1) = false := by simp; omega
        have e2 : (((x.ag : Nat) : Int) == ((r.now : Nat) : Int) + 1) = true := by simp; omega
        have e3 : ¬ ((r.now : Nat) : Int) + 1 < ((x.at' : Nat) : Int) := by omega
        have e4 : ¬ ((r.now : Nat) : Int) + 1 < ((x.ag : Nat) : Int) := by omega
        clear ha hb
        go_upto_region 10 with (at_builtin; refine wpList_pushR rfl (.tmp 38) (.tmp 40) 32 rfl 84 i0 (.agg #[.bool false, .int .i64 0, .slice none 0 0, .int .i64 0, .int .i64 0]) 5 56 Try.underlying32 hi0 hz0 hz1 hz2 rfl (by decide) w1.heap.size _ dn (D.flatMap msL) (msL x) rfl (msL_one x) rfl TKd.out bsz rfl l1 l2 ?_; intro g8 cp8 w8 o8 gr8 at8; have MB8 := MB.out.grown gr8 (fun e => by have := OL.out.1 _ e; omega); have TK8 : Hid (TkR w1 (D ++ [x]) L (.slice (some ⟨g8, 0, none⟩) (dn + 1) cp8) (.slice la ln lc) w8) := TkR.push TK.out HD.out.1 o8 gr8 at8; clear o8 gr8 at8 c0 c1 c2 c3 c4 lM q0 q3 lQ)
        have c0 := MB8.cell 0 _ rfl
        have c1 := MB8.cell 1 _ rfl
        have c2 := MB8.cell 2 _ rfl
        have c3 := MB8.cell 3 _ rfl
        have c4 := MB8.cell 4 _ rfl
        have lM := MB8.lt
        have q0 := (K1.out.1.below TK8.out.2.2.2).cell 0 _ rfl
        have lQ := (K1.out.1.below TK8.out.2.2.2).lt
        have TKl8 : Hid (w8.ownsRow w1.heap.size 84 5 (.slice la ln lc) ln (L.flatMap msL)) := by have := TK8.out.2.1; unfold RowM at this; rw [HD.out.2.1] at this; exact this
        have bsz8 : w1.heap.size ≤ w8.heap.size := TK8.out.2.2.2.size
        clear MB8
        go_wp2_with fail
        go_roundw
        case rel =>
          refine ⟨k + 1, _, _, _, _, _, _, D ++ [x], L, by go_num, rfl, rfl, by omega, by omega, by omega, ⟨?_, ?_, ?_, ?_⟩, TK8.out⟩
          · rw [List.length_append, HD.out.1]; rfl
          · exact HD.out.2.1
          · rw [filter_step _ _ _ _ HX.out, ED.out, ← HD.out.2.2.1]; simp
          · rw [filter_step _ _ _ _ HX.out, EL.out, ← HD.out.2.2.2]; simp
        case measure => simp [intOf]; omega
      · have ED : Hid (isDue (r.now + 1) x = false) := by show _ = _; unfold isDue; simp; omega
        have EL : Hid (isLeft (r.now + 1) x = true) := by show _ = _; unfold isLeft; simp; omega
        have e1 : (((x.at' : Nat) : Int) == ((r.now : Nat) : Int) + 1) = false := by simp; omega
        have e2 : (((x.ag : Nat) : Int) == ((r.now : Nat) : Int) + 1) = false := by simp; omega
        have e3 : ¬ ((r.now : Nat) : Int) + 1 < ((x.at' : Nat) : Int) := by omega
        have e4 : ((r.now : Nat) : Int) + 1 < ((x.ag : Nat) : Int) := by omega
        clear ha hb
        go_wp2_with (at_builtin; refine wpList_pushR rfl (.tmp 54) (.tmp 56) 32 rfl 84 i0 (.agg #[.bool false, .int .i64 0, .slice none 0 0, .int .i64 0, .int .i64 0]) 5 56 Try.underlying32 hi0 hz0 hz1 hz2 rfl (by decide) w1.heap.size _ ln (L.flatMap msL) (msL x) rfl (msL_one x) rfl TKl.out bsz rfl m1 m2 ?_; intro g9 cp9 w9 o9 gr9 at9; have TK9 : Hid (TkR w1 (D) (L ++ [x]) _ (.slice (some ⟨g9, 0, none⟩) (ln + 1) cp9) w9) := (TkR.push TK.out.swap HD.out.2.1 o9 gr9 at9).swap; clear o9 gr9 at9)
        go_roundw
        case rel =>
          refine ⟨k + 1, _, _, _, _, _, _, D, L ++ [x], by go_num, rfl, rfl, by omega, by omega, by omega, ⟨?_, ?_, ?_, ?_⟩, TK9.out⟩
          · exact HD.out.1
          · rw [List.length_append, HD.out.2.1]; rfl
          · rw [filter_step _ _ _ _ HX.out, ED.out, ← HD.out.2.2.1]; simp
          · rw [filter_step _ _ _ _ HX.out, EL.out, ← HD.out.2.2.2]; simp
        case measure => simp [intOf]; omega
      · have ED : Hid (isDue (r.now + 1) x = true) := by show _ = _; unfold isDue; simp; omega
        have EL : Hid (isLeft (r.now + 1) x = false) := by show _ = _; unfold isLeft; simp; omega
        have e1 : (((x.at' : Nat) : Int) == ((r.now : Nat) : Int) + 1) = true := by simp; omega
        have e2 : (((x.ag : Nat) : Int) == ((r.now : Nat) : Int) + 1) = false := by simp; omega
        have e3 : ¬ ((r.now : Nat) : Int) + 1 < ((x.at' : Nat) : Int) := by omega
        have e4 : ¬ ((r.now : Nat) : Int) + 1 < ((x.ag : Nat) : Int) := by omega
        clear ha hb
        go_upto_region 10 with (at_builtin; refine wpList_pushR rfl (.tmp 38) (.tmp 40) 32 rfl 84 i0 (.agg #[.bool false, .int .i64 0, .slice none 0 0, .int .i64 0, .int .i64 0]) 5 56 Try.underlying32 hi0 hz0 hz1 hz2 rfl (by decide) w1.heap.size _ dn (D.flatMap msL) (msL x) rfl (msL_one x) rfl TKd.out bsz rfl l1 l2 ?_; intro g8 cp8 w8 o8 gr8 at8; have MB8 := MB.out.grown gr8 (fun e => by have := OL.out.1 _ e; omega); have TK8 : Hid (TkR w1 (D ++ [x]) L (.slice (some ⟨g8, 0, none⟩) (dn + 1) cp8) (.slice la ln lc) w8) := TkR.push TK.out HD.out.1 o8 gr8 at8; clear o8 gr8 at8 c0 c1 c2 c3 c4 lM q0 q3 lQ)
        have c0 := MB8.cell 0 _ rfl
        have c1 := MB8.cell 1 _ rfl
        have c2 := MB8.cell 2 _ rfl
        have c3 := MB8.cell 3 _ rfl
        have c4 := MB8.cell 4 _ rfl
        have lM := MB8.lt
        have q0 := (K1.out.1.below TK8.out.2.2.2).cell 0 _ rfl
        have lQ := (K1.out.1.below TK8.out.2.2.2).lt
        have TKl8 : Hid (w8.ownsRow w1.heap.size 84 5 (.slice la ln lc) ln (L.flatMap msL)) := by have := TK8.out.2.1; unfold RowM at this; rw [HD.out.2.1] at this; exact this
        have bsz8 : w1.heap.size ≤ w8.heap.size := TK8.out.2.2.2.size
        clear MB8
        go_wp2_with fail
        go_roundw
        case rel =>
          refine ⟨k + 1, _, _, _, _, _, _, D ++ [x], L, by go_num, rfl, rfl, by omega, by omega, by omega, ⟨?_, ?_, ?_, ?_⟩, TK8.out⟩
          · rw [List.length_append, HD.out.1]; rfl
          · exact HD.out.2.1
          · rw [filter_step _ _ _ _ HX.out, ED.out, ← HD.out.2.2.1]; simp
          · rw [filter_step _ _ _ _ HX.out, EL.out, ← HD.out.2.2.2]; simp
        case measure => simp [intOf]; omega
      · have ED : Hid (isDue (r.now + 1) x = true) := by show _ = _; unfold isDue; simp; omega
        have EL : Hid (isLeft (r.now + 1) x = false) := by show _ = _; unfold isLeft; simp; omega
        have e1 : (((x.at' : Nat) : Int) == ((r.now : Nat) : Int) + 1) = true := by simp; omega
        have e2 : (((x.ag : Nat) : Int) == ((r.now : Nat) : Int) + 1) = true := by simp; omega
        have e3 : ¬ ((r.now : Nat) : Int) + 1 < ((x.at' : Nat) : Int) := by omega
        have e4 : ¬ ((r.now : Nat) : Int) + 1 < ((x.ag : Nat) : Int) := by omega
        clear ha hb
        go_upto_region 10 with (at_builtin; refine wpList_pushR rfl (.tmp 38) (.tmp 40) 32 rfl 84 i0 (.agg #[.bool false, .int .i64 0, .slice none 0 0, .int .i64 0, .int .i64 0]) 5 56 Try.underlying32 hi0 hz0 hz1 hz2 rfl (by decide) w1.heap.size _ dn (D.flatMap msL) (msL x) rfl (msL_one x) rfl TKd.out bsz rfl l1 l2 ?_; intro g8 cp8 w8 o8 gr8 at8; have MB8 := MB.out.grown gr8 (fun e => by have := OL.out.1 _ e; omega); have TK8 : Hid (TkR w1 (D ++ [x]) L (.slice (some ⟨g8, 0, none⟩) (dn + 1) cp8) (.slice la ln lc) w8) := TkR.push TK.out HD.out.1 o8 gr8 at8; clear o8 gr8 at8 c0 c1 c2 c3 c4 lM q0 q3 lQ)
        have c0 := MB8.cell 0 _ rfl
        have c1 := MB8.cell 1 _ rfl
        have c2 := MB8.cell 2 _ rfl
        have c3 := MB8.cell 3 _ rfl
        have c4 := MB8.cell 4 _ rfl
        have lM := MB8.lt
        have q0 := (K1.out.1.below TK8.out.2.2.2).cell 0 _ rfl
        have lQ := (K1.out.1.below TK8.out.2.2.2).lt
        have TKl8 : Hid (w8.ownsRow w1.heap.size 84 5 (.slice la ln lc) ln (L.flatMap msL)) := by have := TK8.out.2.1; unfold RowM at this; rw [HD.out.2.1] at this; exact this
        have bsz8 : w1.heap.size ≤ w8.heap.size := TK8.out.2.2.2.size
        clear MB8
        go_wp2_with fail
        go_roundw
        case rel =>
          refine ⟨k + 1, _, _, _, _, _, _, D ++ [x], L, by go_num, rfl, rfl, by omega, by omega, by omega, ⟨?_, ?_, ?_, ?_⟩, TK8.out⟩
          · rw [List.length_append, HD.out.1]; rfl
          · exact HD.out.2.1
          · rw [filter_step _ _ _ _ HX.out, ED.out, ← HD.out.2.2.1]; simp
          · rw [filter_step _ _ _ _ HX.out, EL.out, ← HD.out.2.2.2]; simp
        case measure => simp [intOf]; omega
      · have ED : Hid (isDue (r.now + 1) x = true) := by show _ = _; unfold isDue; simp; omega
        have EL : Hid (isLeft (r.now + 1) x = true) := by show _ = _; unfold isLeft; simp; omega
        have e1 : (((x.at' : Nat) : Int) == ((r.now : Nat) : Int) + 1) = true := by simp; omega
        have e2 : (((x.ag : Nat) : Int) == ((r.now : Nat) : Int) + 1) = false := by simp; omega
        have e3 : ¬ ((r.now : Nat) : Int) + 1 < ((x.at' : Nat) : Int) := by omega
        have e4 : ((r.now : Nat) : Int) + 1 < ((x.ag : Nat) : Int) := by omega
        clear ha hb
        go_upto_region 10 with (at_builtin; refine wpList_pushR rfl (.tmp 38) (.tmp 40) 32 rfl 84 i0 (.agg #[.bool false, .int .i64 0, .slice none 0 0, .int .i64 0, .int .i64 0]) 5 56 Try.underlying32 hi0 hz0 hz1 hz2 rfl (by decide) w1.heap.size _ dn (D.flatMap msL) (msL x) rfl (msL_one x) rfl TKd.out bsz rfl l1 l2 ?_; intro g8 cp8 w8 o8 gr8 at8; have MB8 := MB.out.grown gr8 (fun e => by have := OL.out.1 _ e; omega); have TK8 : Hid (TkR w1 (D ++ [x]) L (.slice (some ⟨g8, 0, none⟩) (dn + 1) cp8) (.slice la ln lc) w8) := TkR.push TK.out HD.out.1 o8 gr8 at8; clear o8 gr8 at8 c0 c1 c2 c3 c4 lM q0 q3 lQ)
        have c0 := MB8.cell 0 _ rfl
        have c1 := MB8.cell 1 _ rfl
        have c2 := MB8.cell 2 _ rfl
        have c3 := MB8.cell 3 _ rfl
        have c4 := MB8.cell 4 _ rfl
        have lM := MB8.lt
        have q0 := (K1.out.1.below TK8.out.2.2.2).cell 0 _ rfl
        have lQ := (K1.out.1.below TK8.out.2.2.2).lt
        have TKl8 : Hid (w8.ownsRow w1.heap.size 84 5 (.slice la ln lc) ln (L.flatMap msL)) := by have := TK8.out.2.1; unfold RowM at this; rw [HD.out.2.1] at this; exact this
        have bsz8 : w1.heap.size ≤ w8.heap.size := TK8.out.2.2.2.size
        clear MB8
        go_wp2_with (at_builtin; refine wpList_pushR rfl (.tmp 54) (.tmp 56) 32 rfl 84 i0 (.agg #[.bool false, .int .i64 0, .slice none 0 0, .int .i64 0, .int .i64 0]) 5 56 Try.underlying32 hi0 hz0 hz1 hz2 rfl (by decide) w1.heap.size _ ln (L.flatMap msL) (msL x) rfl (msL_one x) rfl TKl8.out bsz8 rfl m1 m2 ?_; intro g9 cp9 w9 o9 gr9 at9; have TK9 : Hid (TkR w1 (D ++ [x]) (L ++ [x]) _ (.slice (some ⟨g9, 0, none⟩) (ln + 1) cp9) w9) := (TkR.push TK8.out.swap HD.out.2.1 o9 gr9 at9).swap; clear o9 gr9 at9)
        go_roundw
        case rel =>
          refine ⟨k + 1, _, _, _, _, _, _, D ++ [x], L ++ [x], by go_num, rfl, rfl, by omega, by omega, by omega, ⟨?_, ?_, ?_, ?_⟩, TK9.out⟩
          · rw [List.length_append, HD.out.1]; rfl
          · rw [List.length_append, HD.out.2.1]; rfl
          · rw [filter_step _ _ _ _ HX.out, ED.out, ← HD.out.2.2.1]; simp
          · rw [filter_step _ _ _ _ HX.out, EL.out, ← HD.out.2.2.2]; simp
        case measure => simp [intOf]; omega
      · have ED : Hid (isDue (r.now + 1) x = false) := by show _ = _; unfold isDue; simp; omega
        have EL : Hid (isLeft (r.now + 1) x = true) := by show _ = _; unfold isLeft; simp; omega
        have e1 : (((x.at' : Nat) : Int) == ((r.now : Nat) : Int) + 1) = false := by simp; omega
        have e2 : (((x.ag : Nat) : Int) == ((r.now : Nat) : Int) + 1) = false := by simp; omega
        have e3 : ((r.now : Nat) : Int) + 1 < ((x.at' : Nat) : Int) := by omega
        have e4 : ¬ ((r.now : Nat) : Int) + 1 < ((x.ag : Nat) : Int) := by omega
        clear ha hb
        go_wp2_with (at_builtin; refine wpList_pushR rfl (.tmp 54) (.tmp 56) 32 rfl 84 i0 (.agg #[.bool false, .int .i64 0, .slice none 0 0, .int .i64 0, .int .i64 0]) 5 56 Try.underlying32 hi0 hz0 hz1 hz2 rfl (by decide) w1.heap.size _ ln (L.flatMap msL) (msL x) rfl (msL_one x) rfl TKl.out bsz rfl m1 m2 ?_; intro g9 cp9 w9 o9 gr9 at9; have TK9 : Hid (TkR w1 (D) (L ++ [x]) _ (.slice (some ⟨g9, 0, none⟩) (ln + 1) cp9) w9) := (TkR.push TK.out.swap HD.out.2.1 o9 gr9 at9).swap; clear o9 gr9 at9)
        go_roundw
        case rel =>
          refine ⟨k + 1, _, _, _, _, _, _, D, L ++ [x], by go_num, rfl, rfl, by omega, by omega, by omega, ⟨?_, ?_, ?_, ?_⟩, TK9.out⟩
          · exact HD.out.1
          · rw [List.length_append, HD.out.2.1]; rfl
          · rw [filter_step _ _ _ _ HX.out, ED.out, ← HD.out.2.2.1]; simp
          · rw [filter_step _ _ _ _ HX.out, EL.out, ← HD.out.2.2.2]; simp
        case measure => simp [intOf]; omega
      · have ED : Hid (isDue (r.now + 1) x = true) := by show _ = _; unfold isDue; simp; omega
        have EL : Hid (isLeft (r.now + 1) x = true) := by show _ = _; unfold isLeft; simp; omega
        have e1 : (((x.at' : Nat) : Int) == ((r.now : Nat) : Int) + 1) = false := by simp; omega
        have e2 : (((x.ag : Nat) : Int) == ((r.now : Nat) : Int) + 1) = true := by simp; omega
        have e3 : ((r.now : Nat) : Int) + 1 < ((x.at' : Nat) : Int) := by omega
        have e4 : ¬ ((r.now : Nat) : Int) + 1 < ((x.ag : Nat) : Int) := by omega
        clear ha hb
        go_upto_region 10 with (at_builtin; refine wpList_pushR rfl (.tmp 38) (.tmp 40) 32 rfl 84 i0 (.agg #[.bool false, .int .i64 0, .slice none 0 0, .int .i64 0, .int .i64 0]) 5 56 Try.underlying32 hi0 hz0 hz1 hz2 rfl (by decide) w1.heap.size _ dn (D.flatMap msL) (msL x) rfl (msL_one x) rfl TKd.out bsz rfl l1 l2 ?_; intro g8 cp8 w8 o8 gr8 at8; have MB8 := MB.out.grown gr8 (fun e => by have := OL.out.1 _ e; omega); have TK8 : Hid (TkR w1 (D ++ [x]) L (.slice (some ⟨g8, 0, none⟩) (dn + 1) cp8) (.slice la ln lc) w8) := TkR.push TK.out HD.out.1 o8 gr8 at8; clear o8 gr8 at8 c0 c1 c2 c3 c4 lM q0 q3 lQ)
        have c0 := MB8.cell 0 _ rfl
        have c1 := MB8.cell 1 _ rfl
        have c2 := MB8.cell 2 _ rfl
        have c3 := MB8.cell 3 _ rfl
        have c4 := MB8.cell 4 _ rfl
        have lM := MB8.lt
        have q0 := (K1.out.1.below TK8.out.2.2.2).cell 0 _ rfl
        have lQ := (K1.out.1.below TK8.out.2.2.2).lt
        have TKl8 : Hid (w8.ownsRow w1.heap.size 84 5 (.slice la ln lc) ln (L.flatMap msL)) := by have := TK8.out.2.1; unfold RowM at this; rw [HD.out.2.1] at this; exact this
        have bsz8 : w1.heap.size ≤ w8.heap.size := TK8.out.2.2.2.size
        clear MB8
        go_wp2_with (at_builtin; refine wpList_pushR rfl (.tmp 54) (.tmp 56) 32 rfl 84 i0 (.agg #[.bool false, .int .i64 0, .slice none 0 0, .int .i64 0, .int .i64 0]) 5 56 Try.underlying32 hi0 hz0 hz1 hz2 rfl (by decide) w1.heap.size _ ln (L.flatMap msL) (msL x) rfl (msL_one x) rfl TKl8.out bsz8 rfl m1 m2 ?_; intro g9 cp9 w9 o9 gr9 at9; have TK9 : Hid (TkR w1 (D ++ [x]) (L ++ [x]) _ (.slice (some ⟨g9, 0, none⟩) (ln + 1) cp9) w9) := (TkR.push TK8.out.swap HD.out.2.1 o9 gr9 at9).swap; clear o9 gr9 at9)
        go_roundw
        case rel =>
          refine ⟨k + 1, _, _, _, _, _, _, D ++ [x], L ++ [x], by go_num, rfl, rfl, by omega, by omega, by omega, ⟨?_, ?_, ?_, ?_⟩, TK9.out⟩
          · rw [List.length_append, HD.out.1]; rfl
          · rw [List.length_append, HD.out.2.1]; rfl
          · rw [filter_step _ _ _ _ HX.out, ED.out, ← HD.out.2.2.1]; simp
          · rw [filter_step _ _ _ _ HX.out, EL.out, ← HD.out.2.2.2]; simp
        case measure => simp [intOf]; omega
      · have ED : Hid (isDue (r.now + 1) x = false) := by show _ = _; unfold isDue; simp; omega
        have EL : Hid (isLeft (r.now + 1) x = true) := by show _ = _; unfold isLeft; simp; omega
        have e1 : (((x.at' : Nat) : Int) == ((r.now : Nat) : Int) + 1) = false := by simp; omega
        have e2 : (((x.ag : Nat) : Int) == ((r.now : Nat) : Int) + 1) = false := by simp; omega
        have e3 : ((r.now : Nat) : Int) + 1 < ((x.at' : Nat) : Int) := by omega
        have e4 : ((r.now : Nat) : Int) + 1 < ((x.ag : Nat) : Int) := by omega
        clear ha hb
        go_wp2_with (at_builtin; refine wpList_pushR rfl (.tmp 54) (.tmp 56) 32 rfl 84 i0 (.agg #[.bool false, .int .i64 0, .slice none 0 0, .int .i64 0, .int .i64 0]) 5 56 Try.underlying32 hi0 hz0 hz1 hz2 rfl (by decide) w1.heap.size _ ln (L.flatMap msL) (msL x) rfl (msL_one x) rfl TKl.out bsz rfl m1 m2 ?_; intro g9 cp9 w9 o9 gr9 at9; have TK9 : Hid (TkR w1 (D) (L ++ [x]) _ (.slice (some ⟨g9, 0, none⟩) (ln + 1) cp9) w9) := (TkR.push TK.out.swap HD.out.2.1 o9 gr9 at9).swap; clear o9 gr9 at9)
        go_roundw
        case rel =>
          refine ⟨k + 1, _, _, _, _, _, _, D, L ++ [x], by go_num, rfl, rfl, by omega, by omega, by omega, ⟨?_, ?_, ?_, ?_⟩, TK9.out⟩
          · exact HD.out.1
          · rw [List.length_append, HD.out.2.1]; rfl
          · rw [filter_step _ _ _ _ HX.out, ED.out, ← HD.out.2.2.1]; simp
          · rw [filter_step _ _ _ _ HX.out, EL.out, ← HD.out.2.2.2]; simp
        case measure => simp [intOf]; omega
    · obtain rfl : k = mn := by omega
      have ff3 := (K1.out.1.below TK0.out.2.2.2).fz 3
      have e0 : r.ms.take k = r.ms := List.take_of_length_le (by rw [HN.out]; exact Nat.le_refl _)
      have ST : Hid (TkS C w w1 Q D (.slice da dn dc) (rbeg r) [] (.slice none 0 0) (fun g => C g ∨ (Value.slice la ln lc).ownBlock = some g) aa an ac fa fn fc la ln lc (wr.setCell ⟨Q, 3, none⟩ (.slice la ln lc))) := tks_start RV.out KB.out K1.out.1 K1.out.2.1 K1.out.2.2 HQ.out TK0.out (by rw [HD.out.2.2.1, e0]; rfl) (by rw [HD.out.2.2.2, e0]; rfl)
      have HD2 : Hid (D = rdue r ∧ D.length = dn) := ⟨by rw [HD.out.2.2.1, e0]; rfl, HD.out.1⟩
      clear e0
      go_wp2_with fail
      clear q0 q3 lQ ff3 TK0 HD
      generalize wr.setCell ⟨Q, 3, none⟩ (.slice la ln lc) = w2 at *
      obtain ⟨i1, hi1, hy0, hy1, hy2⟩ := info_parts infoI
      go_loopw [9, 4] (fun vj vi wx => ∃ j : Nat, ∃ ia ic, ∃ C' : Nat → Prop, ∃ ab bn bc fb gn gc mb nn nc, vj = .int .i64 (j : Int) ∧ vi = .slice ia (rmid r j).2.length ic ∧ j ≤ dn ∧ Hid (TkS C w w1 Q D (.slice da dn dc) (rmid r j).1 (rmid r j).2 (.slice ia (rmid r j).2.length ic) C' ab bn bc fb gn gc mb nn nc wx)) (fun vj _ _ => dn - (intOf vj).toNat)
      case atStart => exact ⟨0, none, 0, _, _, _, _, _, _, _, _, _, _, rfl, rfl, by omega, ST.out⟩
      case round =>
        obtain ⟨j, ia, ic, C', ab, bn, bc, fb, gn, gc, mb, nn, nc, rfl, rfl, hj, TS⟩ := hrel
        obtain ⟨s, hs⟩ : ∃ s, (rmid r j).1 = s := ⟨_, rfl⟩
        obtain ⟨ids, hi⟩ : ∃ ids, (rmid r j).2 = ids := ⟨_, rfl⟩
        have SZ : Hid (s.now = r.now + 1 ∧ s.ac.length ≤ r.ac.length + j ∧ s.ms.length ≤ r.ms.length + j ∧ (∀ f ∈ s.fs, f ∈ r.fs) ∧ ids.length ≤ j) := by have := rmid_sz r j; rw [hs, hi] at this; exact this
        have HS : Hid ((rmid r j).1 = s ∧ (rmid r j).2 = ids) := ⟨hs, hi⟩
        rw [hs, hi] at TS
        rw [hi]
        clear hs hi
        obtain ⟨ni, hni⟩ : ∃ ni, ids.length = ni := ⟨_, rfl⟩
        have HI : Hid (ids.length = ni ∧ ni ≤ j) := ⟨hni, by rw [← hni]; exact SZ.out.2.2.2.2⟩
        have hnj := HI.out.2
        rw [hni] at TS ⊢
        clear hni
        have q0 := TS.out.q.cell 0 _ rfl
        have q1 := TS.out.q.cell 1 _ rfl
        have q2 := TS.out.q.cell 2 _ rfl
        have q3 := TS.out.q.cell 3 _ rfl
        have lQ := TS.out.q.lt
        by_cases hlj : (j : Int) < (dn : Int)
        · obtain ⟨x, hx⟩ : ∃ x, D[j]? = some x := ⟨D[j]'(by rw [HD2.out.2]; omega), List.getElem?_eq_getElem _⟩
          obtain ⟨gd, rfl, lgd, y0, y1, y2, y3, y4⟩ := RowM.at TS.out.d hx
          have HX : Hid (D[j]? = some x) := hx
          have GQ : Hid (gd ≠ Q) := fun e => by have := (own_heap TS.out.d (g := gd) rfl).1; have := TS.out.s1; omega
          have hjN : j < dn := by omega
          clear hx
          cases hack : x.ack with
          | true =>
            rw [hack] at y0
            have RI : Hid (World.ownsRow wr w1.heap.size 3 1 (.slice ia ni ic) ni (ids.map iv)) := by have := TS.out.i; unfold RowV at this; rw [List.length_map, HI.out.1] at this; exact this
            have bsz : w1.heap.size ≤ wr.heap.size := by have := TS.out.z.lt; have := TS.out.s1; omega
            have l1 : ni + 1 ≤ maxLen := by unfold maxLen; omega
            have l2 : (ni + 1) * 8 ≤ 140737488355328 := by omega
            have EM : Hid (rmid r (j + 1) = (s, ids ++ [x.id])) := by show _ = _; rw [rmid_step r j x (by rw [← HD2.out.1]; exact HX.out)]; unfold rstep; rw [if_pos hack, HS.out.1, HS.out.2]
            go_wp2_with (at_builtin; refine wpList_pushR rfl (.tmp 71) (.tmp 77) 62 rfl 3 i1 (.int .i64 0) 1 8 Try.underlying62 hi1 hy0 hy1 hy2 rfl (by decide) w1.heap.size _ ni (ids.map iv) [iv x.id] rfl (by intro u hu; rw [List.mem_singleton.1 hu]; rfl) rfl RI.out bsz rfl l1 l2 ?_; intro g9 cp9 w9 o9 gr9 at9; have T9 : Hid (TkS C w w1 Q D (.slice (some ⟨gd, 0, none⟩) dn dc) s (ids ++ [x.id]) (.slice (some ⟨g9, 0, none⟩) (ni + 1) cp9) C' ab bn bc fb gn gc mb nn nc w9) := TS.out.ack (by unfold RowV; rw [List.length_append, List.length_map, HI.out.1]; exact o9) gr9 (fun y e => (by have e' : g9 = y := (by simpa [Value.ownBlock] using e); rw [← e']; exact at9)); clear o9 gr9 at9)
            go_roundw
            case rel =>
              refine ⟨j + 1, some ⟨g9, 0, none⟩, cp9, C', ab, bn, bc, fb, gn, gc, mb, nn, nc, by go_num, ?_, by omega, ?_⟩
              · rw [EM.out]; simp [HI.out.1]
              · rw [EM.out]
                have := T9.out
                rw [← HI.out.1, show ids.length + 1 = (ids ++ [x.id]).length from by simp] at this
                exact this
            case measure => simp [intOf]; omega
          | false =>
            rw [hack] at y0
            have TD := (show Hid _ from TS.out.below (Below.drew (Below.refl _ _)))
            have HT : Hid (Calls Try.prog 35 #[.agg #[.int .i64 ((s.now : Nat) : Int), .slice ab bn bc, .slice fb gn gc, .slice mb nn nc], .agg #[.bool false, .int .i64 x.id, .slice x.ba x.bn x.bc, .int .i64 ((x.at' : Nat) : Int), .int .i64 ((x.ag : Nat) : Int)]] wr.drew (fun e w' => ∃ v', e = .returned v' ∧ RfPost C' wr.drew (rarr s x) v' w')) := by
              have := rtaken_at C' s wr.drew _ x ⟨_, _, _, _, _, _, _, _, _, rfl, TD.out.rv⟩ (TD.out.db x (List.mem_of_getElem? HX.out)) (by have := SZ.out; have := HF.out; omega) (by have := SZ.out; omega) (by have := SZ.out; have := HF.out; omega) (fun f hf => HF.out.2.2 f (SZ.out.2.2.2.1 f hf))
              rw [hack] at this
              exact this
            have EM : Hid (rmid r (j + 1) = (rarr s x, ids)) := by show _ = _; rw [rmid_step r j x (by rw [← HD2.out.1]; exact HX.out)]; unfold rstep; rw [if_neg (by rw [hack]; simp), HS.out.1, HS.out.2]
            have SS : Hid (wr.drew.rangeAt gd (j * 5) [.bool false, .int .i64 x.id, .slice x.ba x.bn x.bc, .int .i64 ((x.at' : Nat) : Int), .int .i64 ((x.ag : Nat) : Int)]) := fun i v hv => by
              match i, hv with
              | 0, hv => cases hv; exact y0
              | 1, hv => cases hv; exact y1
              | 2, hv => cases hv; exact y2
              | 3, hv => cases hv; exact y3
              | 4, hv => cases hv; exact y4
            have SB : Hid (∀ w' : World, wr.drew.heap.size ≤ w'.heap.size → (∀ g, g < wr.drew.heap.size → g ≠ Q → w'.heap[g]? = wr.drew.heap[g]?) → w'.rangeAt gd (j * 5) [.bool false, .int .i64 x.id, .slice x.ba x.bn x.bc, .int .i64 ((x.at' : Nat) : Int), .int .i64 ((x.ag : Nat) : Int)]) := fun w' _ hb i v hv => by
              have := SS.out i v hv
              rw [World.cell?_of_block (w := wr.drew) (w' := w') (hb gd lgd GQ.out)]
              exact this
            have BQ : Hid (Blk Q 34 [.int .i64 ((s.now : Nat) : Int), .slice ab bn bc, .slice fb gn gc, .slice mb nn nc] wr.drew) := TD.out.q
            go_upto_region 18 with fail
            refine wp_region_held_drew (S := fun w' => w'.rangeAt gd (j * 5) [.bool false, .int .i64 x.id, .slice x.ba x.bn x.bc, .int .i64 ((x.at' : Nat) : Int), .int .i64 ((x.ag : Nat) : Int)]) (by kernel_rfl) (SS.out) (fun hH => ?_)
            refine wpAnyH_take (i := 1) (oi := { dst := some 80, op := Op.move (Operand.tmp 5), type := 32, pos := "arrearsref16.go:159", after := #[], guard := none }) (v := .slice (some ⟨gd, 0, none⟩) dn dc) rfl (by kernel_rfl) (by kernel_rfl) (by kernel_rfl) (fun _ _ _ h => h) (Or.inl ⟨by rfl, fun w' hs => by go_simp⟩) hH ?_
            try simp only [Act.put, List.setIfInBounds_toArray, List.set_cons_zero, List.set_cons_succ]
            refine wpAnyH_take (i := 2) (oi := { dst := some 81, op := Op.move (Operand.tmp 9), type := 3, pos := "arrearsref16.go:159", after := #[], guard := none }) (v := .int .i64 (j : Int)) rfl (by kernel_rfl) (by kernel_rfl) (by kernel_rfl) (fun _ _ _ h => h) (Or.inl ⟨by rfl, fun w' hs => by go_simp⟩) hH ?_
            try simp only [Act.put, List.setIfInBounds_toArray, List.set_cons_zero, List.set_cons_succ]
            refine wpAnyH_take (i := 3) (oi := { dst := some 82, op := Op.indexAddr 32 (Operand.tmp 80) (Operand.tmp 81), type := 0, pos := "arrearsref16.go:159", after := #[{ on := 1, ground := Ground.data }, { on := 2, ground := Ground.data }], guard := none }) (v := .pointer (some ⟨gd, j * 5, none⟩)) rfl (by kernel_rfl) (by kernel_rfl) (by kernel_rfl) (fun _ _ _ h => h) (Or.inl ⟨by rfl, fun w' hs => by go_simp⟩) hH ?_
            try simp only [Act.put, List.setIfInBounds_toArray, List.set_cons_zero, List.set_cons_succ]
            refine wpAnyH_take (i := 4) (oi := { dst := some 83, op := Op.load 84 (Operand.tmp 82), type := 84, pos := "arrearsref16.go:159", after := #[{ on := 3, ground := Ground.data }], guard := none }) (v := .agg ([.bool false, .int .i64 x.id, .slice x.ba x.bn x.bc, .int .i64 ((x.at' : Nat) : Int), .int .i64 ((x.ag : Nat) : Int)] : List Value).toArray) rfl (by kernel_rfl) (by kernel_rfl) (by kernel_rfl) (fun _ _ _ h => h) (yieldsIf_load_mid (by rfl) _ _ rfl _ (j * 5) rfl ([.bool false, .int .i64 x.id, .slice x.ba x.bn x.bc, .int .i64 ((x.at' : Nat) : Int), .int .i64 ((x.ag : Nat) : Int)]) _ (fun w' h => h) Try.underlying84 rfl sizeMs) hH ?_
            try simp only [Act.put, List.setIfInBounds_toArray, List.set_cons_zero, List.set_cons_succ]
            refine wpAnyH_ready (rs := [0]) (by kernel_rfl) (by simp) ?_
            refine AllReadyH.cons (o := { dst := some 79, op := Op.load 34 (Operand.tmp 1), type := 34, pos := "arrearsref16.go:159", after := #[], guard := none }) rfl (fun Kx hK => ?_) AllReadyH.nil
            refine op_getB [.int .i64 ((s.now : Nat) : Int), .slice ab bn bc, .slice fb gn gc, .slice mb nn nc] rfl _ rfl Q rfl _ BQ.out Try.underlying34 rfl sizeNt ?_
            refine hK.out _ _ SS.out (fun hH => ?_)
            try simp only [Act.put, List.setIfInBounds_toArray, List.set_cons_zero, List.set_cons_succ]
            refine wpAnyH_ready (rs := [5]) (by kernel_rfl) (by simp) ?_
            refine AllReadyH.cons (o := { dst := some 84, op := Op.call { callee := Callee.value (Operand.func 35), args := #[Operand.tmp 79, Operand.tmp 83], argTypes := #[34, 84] }, type := 34, pos := "arrearsref16.go:159", after := #[{ on := 0, ground := Ground.data }, { on := 4, ground := Ground.data }], guard := none }) rfl (fun Kx hK => ?_) AllReadyH.nil
            go_simp
            refine HT.out.mono ?_
            rintro e w8 ⟨v8, rfl, P8⟩
            obtain ⟨C2, ab', bn', bc', fb', gn', gc', mb', nn', nc', rfl, t9⟩ := TD.out.tookG P8
            have T9 : Hid _ := t9
            have B8 := BQ.out.below P8.2
            have b8 := P8.2
            clear P8 t9
            refine hK.out _ _ (SB.out _ b8.size (fun g hg _ => b8.block g hg)) (fun hH => ?_)
            try simp only [Act.put, List.setIfInBounds_toArray, List.set_cons_zero, List.set_cons_succ]
            refine wpAnyH_ready (rs := [6]) (by kernel_rfl) (by simp) ?_
            refine AllReadyH.cons (o := { dst := none, op := Op.store 34 (Operand.tmp 1) (Operand.tmp 84), type := 0, pos := "arrearsref16.go:159", after := #[{ on := 5, ground := Ground.data }, { on := 5, ground := Ground.chain }, { on := 0, ground := Ground.phase }, { on := 1, ground := Ground.phase }, { on := 2, ground := Ground.phase }, { on := 3, ground := Ground.phase }, { on := 4, ground := Ground.phase }, { on := 5, ground := Ground.phase }], guard := none }) rfl (fun Kx hK => ?_) AllReadyH.nil
            refine op_putB (zs := [.int .i64 ((s.now : Nat) : Int), .slice ab bn bc, .slice fb gn gc, .slice mb nn nc]) [.int .i64 (((rarr s x).now : Nat) : Int), .slice ab' bn' bc', .slice fb' gn' gc', .slice mb' nn' nc'] rfl sizeNt (nt4_one _ _ _ _ _ _ _ _ _ _) rfl _ _ rfl Q rfl rfl B8 ?_
            intro w9 B9 g9
            replace T9 := (show Hid _ from T9.out w9 B9 g9)
            have R9 := SB.out w9 (Nat.le_trans b8.size g9.size) (fun g hg ne => (g9.block g (Nat.lt_of_lt_of_le hg b8.size) (fun e => by injection e with e; exact ne e)).trans (b8.block g hg))
            clear B9 g9 B8 b8
            refine hK.out _ _ R9 (fun hH => ?_)
            clear R9
            try simp only [Act.put, List.setIfInBounds_toArray, List.set_cons_zero, List.set_cons_succ]
            refine wpAnyH_done (by kernel_rfl) ?_ _
            clear hH hK
            clear SS SB BQ
            go_wp2_with fail
            go_roundw
            case rel =>
              refine ⟨j + 1, ia, ic, C2, ab', bn', bc', fb', gn', gc', mb', nn', nc', by go_num, ?_, by omega, ?_⟩
              · rw [EM.out]; simp [HI.out.1]
              · rw [EM.out]
                have := T9.out
                rw [← HI.out.1] at this
                exact this
            case measure => simp [intOf]; omega
        · obtain rfl : j = dn := by omega
          have dd0 := TS.out.z.cell 0 _ rfl
          have dd1 := TS.out.z.cell 1 _ rfl
          have dd2 := TS.out.z.cell 2 _ rfl
          have dd3 := TS.out.z.cell 3 _ rfl
          have ff := TS.out.z.fz
          have lt8 := TS.out.z.lt
          have FN := (show Hid _ from TS.out.fin)
          have EA : Hid (rtick r = (s, ids)) := by show _ = _; rw [← rmid_all r j (by rw [← HD2.out.1, HD2.out.2]; exact Nat.le_refl _), ← HS.out.1, ← HS.out.2]
          go_wp2_with fail
          exact ret_blk_tmp rfl rfl (Q + 1) _ [.int .i64 ((s.now : Nat) : Int), .slice ab bn bc, .slice fb gn gc, .slice mb nn nc] _ rfl FN.out.1 Try.underlying34 rfl (by kernel_rfl) ⟨_, ia, ni, ic, rfl, by rw [EA.out]; exact FN.out.2.1, by rw [EA.out]; exact FN.out.2.2⟩
end Go.Proofs.Ytcnhcdlbippjoaa
