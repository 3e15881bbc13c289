/-
  Ours: the reference's quiet, paid, age (gen_corf.py).
-/
import Derived.Test.YtmbbigkpeefjjabDoorCoRf1
import Derived.Test.YtmbbigkpeefjjabDoorCoRun
import Derived.Deep.CutRange
namespace Go.Proofs.YtmbbigkpeefjjabDoor
open Go.RowKit LedM PolM CoM

structure KR (w : World) (bs : List (Nat × TypeId × List Value)) (v : Value) (a : List Int) (w' : World) : Prop where
  kd : KD w bs w'
  r : RowV 3 w.heap.size w' v (bkL a)
section
variable {w w1 w2 : World} {bs : List (Nat × TypeId × List Value)} {q : Nat × TypeId × List Value} {v v' : Value} {a a' : List Int}
theorem KR.call (h : KR w bs v a w1) (b : Below w1.heap.size w1 w2) : KR w bs v a w2 := ⟨h.kd.call b, h.r.later b⟩
theorem KR.set (h : KR w bs v a w1) (k i : Nat) (hq : bs[k]? = some q) (hT : 3 ≠ q.2.1) (u : Value) : KR w (bs.set k (q.1, q.2.1, q.2.2.set i u)) v a (w1.setCell ⟨q.1, i, none⟩ u) := ⟨h.kd.set k i hq u, rowV_blk h.r (h.kd.at k hq) (setCell_grown _ _ _ _) hT⟩
theorem KR.store (h : KR w bs v a w1) (k : Nat) (hq : bs[k]? = some q) (hT : 3 ≠ q.2.1) {cs : List Value} (nb : Blk q.1 q.2.1 cs w2) (g : w1.grownBy w2 (some q.1)) : KR w (bs.set k (q.1, q.2.1, cs)) v a w2 := ⟨h.kd.store k hq nb g, rowV_blk h.r (h.kd.at k hq) g hT⟩
theorem KR.row (h : KR w bs v a w1) (hT : ∀ (k : Nat) (q : Nat × TypeId × List Value), bs[k]? = some q → 3 ≠ q.2.1) (g : w1.grownBy w2 v.ownBlock) (r : RowV 3 w.heap.size w2 v' (bkL a')) : KR w bs v' a' w2 :=
  ⟨⟨below_grown h.kd.bb h.r (Nat.le_refl _) h.kd.bb.size g, fun k q hq => ⟨(h.kd.bk k q hq).1, (h.kd.bk k q hq).2.grown g (row_ne_blkC h.r (h.kd.at k hq) (hT k q hq))⟩, h.kd.nd⟩, r⟩
end
theorem bkL_app (a : List Int) (x : Int) : bkL (a ++ [x]) = bkL a ++ [.int .i64 x] := by simp [bkL]
theorem len1C {a : List Int} (h : a.length ≤ 1000) : (bkL a).length + 1 ≤ maxLen := by rw [bkL_len]; unfold maxLen; omega
theorem len2C {a : List Int} (h : a.length ≤ 1000) : ((bkL a).length + 1) * 8 ≤ 140737488355328 := by rw [bkL_len]; omega
theorem row_one (w : World) (x : Int) (B : Nat) (h : B ≤ w.heap.size) : RowV 3 B (w.alloc (.cells #[.int .i64 x] 3)) (.slice (some ⟨w.heap.size, 0, none⟩) 1 1) (bkL [x]) := by
  have hb := Blk.new 3 [.int .i64 x] w
  exact ⟨by simp [bkL], .inr ⟨w.heap.size, 1, #[.int .i64 x], rfl, h, hb, Nat.le_refl _, by decide, rfl, rfl⟩⟩
theorem int_ne_case : (3 : TypeId) ≠ 27 := by decide
theorem int_ne_ev : (3 : TypeId) ≠ 37 := by decide
theorem int_ne_pol : (3 : TypeId) ≠ 24 := by decide

set_option maxRecDepth 20000 in
set_option maxHeartbeats 2000000 in
theorem rquiet_at (l : List Int) (s : Value) (c : Cs) (ev : Ev) (hl : l.length = 17) (hd : 0 ≤ ev.d) (hgr : 0 ≤ l.getD 1 0) (w : World) : Calls Tryd.prog 78 #[PV l s, csV c, evV ev] w (RunAns (lok (l.getD 1 0) (l.getD 3 0) ev (c, [])) w) := by
  show Calls _ _ #[.agg (polL l s).toArray, .agg (csL c).toArray, .agg (evL ev).toArray] _ _
  have SZ : Hid ((Tryd.prog.info? 24).map (·.size) = some (polL l s).length) := by show _ = _; rw [polL_len hl]; exact sizeP
  have P1 : Hid ((polL l s)[1]? = some (.int .i64 (l.getD 1 0))) := polL_at hl 1 (by decide)
  have P3 : Hid ((polL l s)[3]? = some (.int .i64 (l.getD 3 0))) := polL_at hl 3 (by decide)
  clear hl
  generalize l.getD 1 0 = GR at *
  generalize l.getD 3 0 = CO at *
  by_cases h0 : ev.d = 0
  · by_cases h2 : c.st = 2
    · have HE : Hid (lok GR CO ev (c, []) = ({ c with st := 1 }, [])) := by show _ = _; unfold lok; rw [if_neg (by omega), if_neg (by omega)]; simp [h2]
      have d2 : (c.st == 2) = true := by simpa using h2
      have dd : (ev.d == 0) = true := by simpa using h0
      clear h2 h0 hd hgr
      have S1 : Hid (KD w [(w.heap.size, 24, polL l s), (w.heap.size + 1, 27, csL c), (w.heap.size + 1 + 1, 37, evL ev), (w.heap.size + 1 + 1 + 1, 27, csL ⟨0, false, 0, 0, 0, 0, 0, 0, 0, 0, 0, 0, 0, 0, 0⟩)] ((((w.alloc (.cells (polL l s).toArray 24)).alloc (.cells (csL c).toArray 27)).alloc (.cells (evL ev).toArray 37)).alloc (.cells #[.int .i64 0, .bool false, .int .i64 0, .int .i64 0, .int .i64 0, .int .i64 0, .int .i64 0, .int .i64 0, .int .i64 0, .int .i64 0, .int .i64 0, .int .i64 0, .int .i64 0, .int .i64 0, .int .i64 0] 27))) := KD.four w _ _ _ _ _ _ _ _
      go_enter Tryd.func78, Tryd.ntmps78
      go_upto_region 1 with fail
      generalize ((((w.alloc (.cells (polL l s).toArray 24)).alloc (.cells (csL c).toArray 27)).alloc (.cells (evL ev).toArray 37)).alloc (.cells #[.int .i64 0, .bool false, .int .i64 0, .int .i64 0, .int .i64 0, .int .i64 0, .int .i64 0, .int .i64 0, .int .i64 0, .int .i64 0, .int .i64 0, .int .i64 0, .int .i64 0, .int .i64 0, .int .i64 0] 27)) = w1 at *
      have c0 : w1.cell? ⟨w.heap.size + 1, 0, none⟩ = some (.int .i64 c.st) := S1.out.cell 1 0 rfl _ rfl
      have e2 : w1.cell? ⟨w.heap.size + 1 + 1, 2, none⟩ = some (.int .i64 ev.d) := S1.out.cell 2 2 rfl _ rfl
      have f0 := S1.out.fz 1 0 rfl
      have lt := S1.out.lt 1 rfl
      have q1 : KD w [(w.heap.size, 24, polL l s), (w.heap.size + 1, 27, csL { c with st := 1 }), (w.heap.size + 1 + 1, 37, evL ev), (w.heap.size + 1 + 1 + 1, 27, csL ⟨0, false, 0, 0, 0, 0, 0, 0, 0, 0, 0, 0, 0, 0, 0⟩)] (w1.setCell ⟨w.heap.size + 1, 0, none⟩ (.int .i64 1)) := S1.out.set 1 0 rfl (.int .i64 1)
      have S2 : Hid (KD w [(w.heap.size, 24, polL l s), (w.heap.size + 1, 27, csL { c with st := 1 }), (w.heap.size + 1 + 1, 37, evL ev), (w.heap.size + 1 + 1 + 1, 27, csL ⟨0, false, 0, 0, 0, 0, 0, 0, 0, 0, 0, 0, 0, 0, 0⟩)] (w1.setCell ⟨w.heap.size + 1, 0, none⟩ (.int .i64 1))) := q1
      clear q1
      clear S1
      go_upto_region 4 with fail
      generalize (w1.setCell ⟨w.heap.size + 1, 0, none⟩ (.int .i64 1)) = w2 at *
      clear c0 e2 f0 lt
      have S3 : Hid (KR w [(w.heap.size, 24, polL l s), (w.heap.size + 1, 27, csL ({ c with st := 1 })), (w.heap.size + 1 + 1, 37, evL ev), (w.heap.size + 1 + 1 + 1, 27, csL ⟨0, false, 0, 0, 0, 0, 0, 0, 0, 0, 0, 0, 0, 0, 0⟩)] (.slice none 0 0) [] w2) := ⟨S2.out, RowV.nil _ _ _⟩
      clear S2
      go_wp2_with (first
      | ((with_reducible refine at_loadT 27 ?_); refine step_load rfl 27 _ rfl (w.heap.size + 1) 0 rfl (csL ({ c with st := 1 })) _ (Blk.all (S3.out.kd.at 1 rfl)) Tryd.underlying27 rfl (sizeCsL _) ?_)
      | ((with_reducible refine at_store ?_); refine step_store rfl 27 _ _ rfl (w.heap.size + 1 + 1 + 1) 0 27 (csL ⟨0, false, 0, 0, 0, 0, 0, 0, 0, 0, 0, 0, 0, 0, 0⟩) (csL ({ c with st := 1 })) rfl rfl (S3.out.kd.at 3 rfl) (Nat.le_refl 15) (sizeCsL _) (csL_one _) ?_; intro wz nz gz))
      refine ret_blk_tmp rfl rfl (w.heap.size + 1 + 1 + 1) 27 (csL ({ c with st := 1 })) _ rfl nz Tryd.underlying27 rfl (sizeCsL _) ?_
      rw [HE.out]
      exact ⟨_, _, _, rfl, (rowV_blk S3.out.r (S3.out.kd.at 3 rfl) gz int_ne_case), (S3.out.kd.store 3 rfl nz gz).bb⟩
    · have HE : Hid (lok GR CO ev (c, []) = (c, [])) := by show _ = _; unfold lok; rw [if_neg (by omega), if_neg (by omega)]; simp [h2]
      have d2 : (c.st == 2) = false := by simpa using h2
      have dd : (ev.d == 0) = true := by simpa using h0
      clear h2 h0 hd hgr
      have S1 : Hid (KD w [(w.heap.size, 24, polL l s), (w.heap.size + 1, 27, csL c), (w.heap.size + 1 + 1, 37, evL ev), (w.heap.size + 1 + 1 + 1, 27, csL ⟨0, false, 0, 0, 0, 0, 0, 0, 0, 0, 0, 0, 0, 0, 0⟩)] ((((w.alloc (.cells (polL l s).toArray 24)).alloc (.cells (csL c).toArray 27)).alloc (.cells (evL ev).toArray 37)).alloc (.cells #[.int .i64 0, .bool false, .int .i64 0, .int .i64 0, .int .i64 0, .int .i64 0, .int .i64 0, .int .i64 0, .int .i64 0, .int .i64 0, .int .i64 0, .int .i64 0, .int .i64 0, .int .i64 0, .int .i64 0] 27))) := KD.four w _ _ _ _ _ _ _ _
      go_enter Tryd.func78, Tryd.ntmps78
      go_upto_region 1 with fail
      generalize ((((w.alloc (.cells (polL l s).toArray 24)).alloc (.cells (csL c).toArray 27)).alloc (.cells (evL ev).toArray 37)).alloc (.cells #[.int .i64 0, .bool false, .int .i64 0, .int .i64 0, .int .i64 0, .int .i64 0, .int .i64 0, .int .i64 0, .int .i64 0, .int .i64 0, .int .i64 0, .int .i64 0, .int .i64 0, .int .i64 0, .int .i64 0] 27)) = w1 at *
      have c0 : w1.cell? ⟨w.heap.size + 1, 0, none⟩ = some (.int .i64 c.st) := S1.out.cell 1 0 rfl _ rfl
      have e2 : w1.cell? ⟨w.heap.size + 1 + 1, 2, none⟩ = some (.int .i64 ev.d) := S1.out.cell 2 2 rfl _ rfl
      have f0 := S1.out.fz 1 0 rfl
      have lt := S1.out.lt 1 rfl
      have S2 : Hid _ := S1.out
      clear S1
      go_upto_region 4 with fail
      clear c0 e2 f0 lt
      have S3 : Hid (KR w [(w.heap.size, 24, polL l s), (w.heap.size + 1, 27, csL (c)), (w.heap.size + 1 + 1, 37, evL ev), (w.heap.size + 1 + 1 + 1, 27, csL ⟨0, false, 0, 0, 0, 0, 0, 0, 0, 0, 0, 0, 0, 0, 0⟩)] (.slice none 0 0) [] w1) := ⟨S2.out, RowV.nil _ _ _⟩
      clear S2
      go_wp2_with (first
      | ((with_reducible refine at_loadT 27 ?_); refine step_load rfl 27 _ rfl (w.heap.size + 1) 0 rfl (csL (c)) _ (Blk.all (S3.out.kd.at 1 rfl)) Tryd.underlying27 rfl (sizeCsL _) ?_)
      | ((with_reducible refine at_store ?_); refine step_store rfl 27 _ _ rfl (w.heap.size + 1 + 1 + 1) 0 27 (csL ⟨0, false, 0, 0, 0, 0, 0, 0, 0, 0, 0, 0, 0, 0, 0⟩) (csL (c)) rfl rfl (S3.out.kd.at 3 rfl) (Nat.le_refl 15) (sizeCsL _) (csL_one _) ?_; intro wz nz gz))
      refine ret_blk_tmp rfl rfl (w.heap.size + 1 + 1 + 1) 27 (csL (c)) _ rfl nz Tryd.underlying27 rfl (sizeCsL _) ?_
      rw [HE.out]
      exact ⟨_, _, _, rfl, (rowV_blk S3.out.r (S3.out.kd.at 3 rfl) gz int_ne_case), (S3.out.kd.store 3 rfl nz gz).bb⟩
  · by_cases hg : ev.d ≤ GR
    · have HE : Hid (lok GR CO ev (c, []) = ({ c with st := 2 }, [])) := by show _ = _; unfold lok; rw [if_neg (by omega), if_pos (by omega)]
      have dd : (ev.d == 0) = false := by simpa using h0
      have dg : decide (ev.d ≤ GR) = true := decide_eq_true hg
      clear hg h0 hd hgr
      have S1 : Hid (KD w [(w.heap.size, 24, polL l s), (w.heap.size + 1, 27, csL c), (w.heap.size + 1 + 1, 37, evL ev), (w.heap.size + 1 + 1 + 1, 27, csL ⟨0, false, 0, 0, 0, 0, 0, 0, 0, 0, 0, 0, 0, 0, 0⟩)] ((((w.alloc (.cells (polL l s).toArray 24)).alloc (.cells (csL c).toArray 27)).alloc (.cells (evL ev).toArray 37)).alloc (.cells #[.int .i64 0, .bool false, .int .i64 0, .int .i64 0, .int .i64 0, .int .i64 0, .int .i64 0, .int .i64 0, .int .i64 0, .int .i64 0, .int .i64 0, .int .i64 0, .int .i64 0, .int .i64 0, .int .i64 0] 27))) := KD.four w _ _ _ _ _ _ _ _
      go_enter Tryd.func78, Tryd.ntmps78
      go_upto_region 1 with fail
      generalize ((((w.alloc (.cells (polL l s).toArray 24)).alloc (.cells (csL c).toArray 27)).alloc (.cells (evL ev).toArray 37)).alloc (.cells #[.int .i64 0, .bool false, .int .i64 0, .int .i64 0, .int .i64 0, .int .i64 0, .int .i64 0, .int .i64 0, .int .i64 0, .int .i64 0, .int .i64 0, .int .i64 0, .int .i64 0, .int .i64 0, .int .i64 0] 27)) = w1 at *
      have c0 : w1.cell? ⟨w.heap.size + 1, 0, none⟩ = some (.int .i64 c.st) := S1.out.cell 1 0 rfl _ rfl
      have e2 : w1.cell? ⟨w.heap.size + 1 + 1, 2, none⟩ = some (.int .i64 ev.d) := S1.out.cell 2 2 rfl _ rfl
      have p1 : w1.cell? ⟨w.heap.size, 1, none⟩ = some (.int .i64 GR) := S1.out.cell 0 1 rfl _ P1.out
      have f0 := S1.out.fz 1 0 rfl
      have lt := S1.out.lt 1 rfl
      have q1 : KD w [(w.heap.size, 24, polL l s), (w.heap.size + 1, 27, csL { c with st := 2 }), (w.heap.size + 1 + 1, 37, evL ev), (w.heap.size + 1 + 1 + 1, 27, csL ⟨0, false, 0, 0, 0, 0, 0, 0, 0, 0, 0, 0, 0, 0, 0⟩)] (w1.setCell ⟨w.heap.size + 1, 0, none⟩ (.int .i64 2)) := S1.out.set 1 0 rfl (.int .i64 2)
      have S2 : Hid (KD w [(w.heap.size, 24, polL l s), (w.heap.size + 1, 27, csL { c with st := 2 }), (w.heap.size + 1 + 1, 37, evL ev), (w.heap.size + 1 + 1 + 1, 27, csL ⟨0, false, 0, 0, 0, 0, 0, 0, 0, 0, 0, 0, 0, 0, 0⟩)] (w1.setCell ⟨w.heap.size + 1, 0, none⟩ (.int .i64 2))) := q1
      clear q1
      clear S1
      go_upto_region 7 with fail
      generalize (w1.setCell ⟨w.heap.size + 1, 0, none⟩ (.int .i64 2)) = w2 at *
      clear c0 e2 p1 f0 lt
      have S3 : Hid (KR w [(w.heap.size, 24, polL l s), (w.heap.size + 1, 27, csL ({ c with st := 2 })), (w.heap.size + 1 + 1, 37, evL ev), (w.heap.size + 1 + 1 + 1, 27, csL ⟨0, false, 0, 0, 0, 0, 0, 0, 0, 0, 0, 0, 0, 0, 0⟩)] (.slice none 0 0) [] w2) := ⟨S2.out, RowV.nil _ _ _⟩
      clear S2
      go_wp2_with (first
      | ((with_reducible refine at_loadT 27 ?_); refine step_load rfl 27 _ rfl (w.heap.size + 1) 0 rfl (csL ({ c with st := 2 })) _ (Blk.all (S3.out.kd.at 1 rfl)) Tryd.underlying27 rfl (sizeCsL _) ?_)
      | ((with_reducible refine at_store ?_); refine step_store rfl 27 _ _ rfl (w.heap.size + 1 + 1 + 1) 0 27 (csL ⟨0, false, 0, 0, 0, 0, 0, 0, 0, 0, 0, 0, 0, 0, 0⟩) (csL ({ c with st := 2 })) rfl rfl (S3.out.kd.at 3 rfl) (Nat.le_refl 15) (sizeCsL _) (csL_one _) ?_; intro wz nz gz))
      refine ret_blk_tmp rfl rfl (w.heap.size + 1 + 1 + 1) 27 (csL ({ c with st := 2 })) _ rfl nz Tryd.underlying27 rfl (sizeCsL _) ?_
      rw [HE.out]
      exact ⟨_, _, _, rfl, (rowV_blk S3.out.r (S3.out.kd.at 3 rfl) gz int_ne_case), (S3.out.kd.store 3 rfl nz gz).bb⟩
    · have HE : Hid (lok GR CO ev (c, []) = (opC (CO) ev.t c, [2])) := by show _ = _; unfold lok; rw [if_pos (by omega)]; rfl
      have dd : (ev.d == 0) = false := by simpa using h0
      have dg : decide (ev.d ≤ GR) = false := decide_eq_false hg
      clear hg h0 hd hgr
      have S1 : Hid (KD w [(w.heap.size, 24, polL l s), (w.heap.size + 1, 27, csL c), (w.heap.size + 1 + 1, 37, evL ev), (w.heap.size + 1 + 1 + 1, 27, csL ⟨0, false, 0, 0, 0, 0, 0, 0, 0, 0, 0, 0, 0, 0, 0⟩)] ((((w.alloc (.cells (polL l s).toArray 24)).alloc (.cells (csL c).toArray 27)).alloc (.cells (evL ev).toArray 37)).alloc (.cells #[.int .i64 0, .bool false, .int .i64 0, .int .i64 0, .int .i64 0, .int .i64 0, .int .i64 0, .int .i64 0, .int .i64 0, .int .i64 0, .int .i64 0, .int .i64 0, .int .i64 0, .int .i64 0, .int .i64 0] 27))) := KD.four w _ _ _ _ _ _ _ _
      go_enter Tryd.func78, Tryd.ntmps78
      go_upto_region 1 with fail
      generalize ((((w.alloc (.cells (polL l s).toArray 24)).alloc (.cells (csL c).toArray 27)).alloc (.cells (evL ev).toArray 37)).alloc (.cells #[.int .i64 0, .bool false, .int .i64 0, .int .i64 0, .int .i64 0, .int .i64 0, .int .i64 0, .int .i64 0, .int .i64 0, .int .i64 0, .int .i64 0, .int .i64 0, .int .i64 0, .int .i64 0, .int .i64 0] 27)) = w1 at *
      have c0 : w1.cell? ⟨w.heap.size + 1, 0, none⟩ = some (.int .i64 c.st) := S1.out.cell 1 0 rfl _ rfl
      have f0 := S1.out.fz 1 0 rfl
      have c2 : w1.cell? ⟨w.heap.size + 1, 2, none⟩ = some (.int .i64 c.cy) := S1.out.cell 1 2 rfl _ rfl
      have f2 := S1.out.fz 1 2 rfl
      have c3 : w1.cell? ⟨w.heap.size + 1, 3, none⟩ = some (.int .i64 c.si) := S1.out.cell 1 3 rfl _ rfl
      have f3 := S1.out.fz 1 3 rfl
      have c4 : w1.cell? ⟨w.heap.size + 1, 4, none⟩ = some (.int .i64 c.dl) := S1.out.cell 1 4 rfl _ rfl
      have f4 := S1.out.fz 1 4 rfl
      have c5 : w1.cell? ⟨w.heap.size + 1, 5, none⟩ = some (.int .i64 c.pr) := S1.out.cell 1 5 rfl _ rfl
      have f5 := S1.out.fz 1 5 rfl
      have c13 : w1.cell? ⟨w.heap.size + 1, 13, none⟩ = some (.int .i64 c.cf) := S1.out.cell 1 13 rfl _ rfl
      have f13 := S1.out.fz 1 13 rfl
      have e2 : w1.cell? ⟨w.heap.size + 1 + 1, 2, none⟩ = some (.int .i64 ev.d) := S1.out.cell 2 2 rfl _ rfl
      have e1 : w1.cell? ⟨w.heap.size + 1 + 1, 1, none⟩ = some (.int .i64 ev.t) := S1.out.cell 2 1 rfl _ rfl
      have p1 : w1.cell? ⟨w.heap.size, 1, none⟩ = some (.int .i64 GR) := S1.out.cell 0 1 rfl _ P1.out
      have p3 : w1.cell? ⟨w.heap.size, 3, none⟩ = some (.int .i64 CO) := S1.out.cell 0 3 rfl _ P3.out
      have lt := S1.out.lt 1 rfl
      have q1 : KD w [(w.heap.size, 24, polL l s), (w.heap.size + 1, 27, csL { c with cy := wrap64 (c.cy + 1) }), (w.heap.size + 1 + 1, 37, evL ev), (w.heap.size + 1 + 1 + 1, 27, csL ⟨0, false, 0, 0, 0, 0, 0, 0, 0, 0, 0, 0, 0, 0, 0⟩)] (w1.setCell ⟨w.heap.size + 1, 2, none⟩ (.int .i64 (wrap64 (c.cy + 1)))) := S1.out.set 1 2 rfl (.int .i64 (wrap64 (c.cy + 1)))
      have q2 : KD w [(w.heap.size, 24, polL l s), (w.heap.size + 1, 27, csL { c with cy := wrap64 (c.cy + 1), si := ev.t }), (w.heap.size + 1 + 1, 37, evL ev), (w.heap.size + 1 + 1 + 1, 27, csL ⟨0, false, 0, 0, 0, 0, 0, 0, 0, 0, 0, 0, 0, 0, 0⟩)] ((w1.setCell ⟨w.heap.size + 1, 2, none⟩ (.int .i64 (wrap64 (c.cy + 1)))).setCell ⟨w.heap.size + 1, 3, none⟩ (.int .i64 ev.t)) := q1.set 1 3 rfl (.int .i64 ev.t)
      have q3 : KD w [(w.heap.size, 24, polL l s), (w.heap.size + 1, 27, csL { c with cy := wrap64 (c.cy + 1), si := ev.t, dl := wrap64 (ev.t + CO) }), (w.heap.size + 1 + 1, 37, evL ev), (w.heap.size + 1 + 1 + 1, 27, csL ⟨0, false, 0, 0, 0, 0, 0, 0, 0, 0, 0, 0, 0, 0, 0⟩)] (((w1.setCell ⟨w.heap.size + 1, 2, none⟩ (.int .i64 (wrap64 (c.cy + 1)))).setCell ⟨w.heap.size + 1, 3, none⟩ (.int .i64 ev.t)).setCell ⟨w.heap.size + 1, 4, none⟩ (.int .i64 (wrap64 (ev.t + CO)))) := q2.set 1 4 rfl (.int .i64 (wrap64 (ev.t + CO)))
      have q4 : KD w [(w.heap.size, 24, polL l s), (w.heap.size + 1, 27, csL { c with cy := wrap64 (c.cy + 1), si := ev.t, dl := wrap64 (ev.t + CO), pr := 0 }), (w.heap.size + 1 + 1, 37, evL ev), (w.heap.size + 1 + 1 + 1, 27, csL ⟨0, false, 0, 0, 0, 0, 0, 0, 0, 0, 0, 0, 0, 0, 0⟩)] ((((w1.setCell ⟨w.heap.size + 1, 2, none⟩ (.int .i64 (wrap64 (c.cy + 1)))).setCell ⟨w.heap.size + 1, 3, none⟩ (.int .i64 ev.t)).setCell ⟨w.heap.size + 1, 4, none⟩ (.int .i64 (wrap64 (ev.t + CO)))).setCell ⟨w.heap.size + 1, 5, none⟩ (.int .i64 0)) := q3.set 1 5 rfl (.int .i64 0)
      have q5 : KD w [(w.heap.size, 24, polL l s), (w.heap.size + 1, 27, csL { c with cy := wrap64 (c.cy + 1), si := ev.t, dl := wrap64 (ev.t + CO), pr := 0, cf := 0 }), (w.heap.size + 1 + 1, 37, evL ev), (w.heap.size + 1 + 1 + 1, 27, csL ⟨0, false, 0, 0, 0, 0, 0, 0, 0, 0, 0, 0, 0, 0, 0⟩)] (((((w1.setCell ⟨w.heap.size + 1, 2, none⟩ (.int .i64 (wrap64 (c.cy + 1)))).setCell ⟨w.heap.size + 1, 3, none⟩ (.int .i64 ev.t)).setCell ⟨w.heap.size + 1, 4, none⟩ (.int .i64 (wrap64 (ev.t + CO)))).setCell ⟨w.heap.size + 1, 5, none⟩ (.int .i64 0)).setCell ⟨w.heap.size + 1, 13, none⟩ (.int .i64 0)) := q4.set 1 13 rfl (.int .i64 0)
      have q6 : KD w [(w.heap.size, 24, polL l s), (w.heap.size + 1, 27, csL (opC (CO) ev.t c)), (w.heap.size + 1 + 1, 37, evL ev), (w.heap.size + 1 + 1 + 1, 27, csL ⟨0, false, 0, 0, 0, 0, 0, 0, 0, 0, 0, 0, 0, 0, 0⟩)] ((((((w1.setCell ⟨w.heap.size + 1, 2, none⟩ (.int .i64 (wrap64 (c.cy + 1)))).setCell ⟨w.heap.size + 1, 3, none⟩ (.int .i64 ev.t)).setCell ⟨w.heap.size + 1, 4, none⟩ (.int .i64 (wrap64 (ev.t + CO)))).setCell ⟨w.heap.size + 1, 5, none⟩ (.int .i64 0)).setCell ⟨w.heap.size + 1, 13, none⟩ (.int .i64 0)).setCell ⟨w.heap.size + 1, 0, none⟩ (.int .i64 3)) := q5.set 1 0 rfl (.int .i64 3)
      have S2 : Hid (KD w [(w.heap.size, 24, polL l s), (w.heap.size + 1, 27, csL (opC (CO) ev.t c)), (w.heap.size + 1 + 1, 37, evL ev), (w.heap.size + 1 + 1 + 1, 27, csL ⟨0, false, 0, 0, 0, 0, 0, 0, 0, 0, 0, 0, 0, 0, 0⟩)] ((((((w1.setCell ⟨w.heap.size + 1, 2, none⟩ (.int .i64 (wrap64 (c.cy + 1)))).setCell ⟨w.heap.size + 1, 3, none⟩ (.int .i64 ev.t)).setCell ⟨w.heap.size + 1, 4, none⟩ (.int .i64 (wrap64 (ev.t + CO)))).setCell ⟨w.heap.size + 1, 5, none⟩ (.int .i64 0)).setCell ⟨w.heap.size + 1, 13, none⟩ (.int .i64 0)).setCell ⟨w.heap.size + 1, 0, none⟩ (.int .i64 3))) := q6
      clear q1 q2 q3 q4 q5 q6
      clear S1
      go_upto_region 14 with fail
      generalize ((((((w1.setCell ⟨w.heap.size + 1, 2, none⟩ (.int .i64 (wrap64 (c.cy + 1)))).setCell ⟨w.heap.size + 1, 3, none⟩ (.int .i64 ev.t)).setCell ⟨w.heap.size + 1, 4, none⟩ (.int .i64 (wrap64 (ev.t + CO)))).setCell ⟨w.heap.size + 1, 5, none⟩ (.int .i64 0)).setCell ⟨w.heap.size + 1, 13, none⟩ (.int .i64 0)).setCell ⟨w.heap.size + 1, 0, none⟩ (.int .i64 3)) = w2 at *
      clear c0 c2 c3 c4 c5 c13 f0 f2 f3 f4 f5 f13 e2 e1 p1 p3 lt
      have S3 : Hid (KR w [(w.heap.size, 24, polL l s), (w.heap.size + 1, 27, csL (opC (CO) ev.t c)), (w.heap.size + 1 + 1, 37, evL ev), (w.heap.size + 1 + 1 + 1, 27, csL ⟨0, false, 0, 0, 0, 0, 0, 0, 0, 0, 0, 0, 0, 0, 0⟩)] (.slice (some ⟨w2.heap.size, 0, none⟩) 1 1) [2] (w2.alloc (.cells #[.int .i64 2] 3))) := ⟨S2.out.call (below_alloc _ _), row_one _ _ _ S2.out.bb.size⟩
      go_wp2_with (first
      | ((with_reducible refine at_loadT 27 ?_); refine step_load rfl 27 _ rfl (w.heap.size + 1) 0 rfl (csL (opC (CO) ev.t c)) _ (Blk.all (S2.out.at 1 rfl)) Tryd.underlying27 rfl (sizeCsL _) ?_)
      | ((with_reducible refine at_store ?_); refine step_store rfl 27 _ _ rfl (w.heap.size + 1 + 1 + 1) 0 27 (csL ⟨0, false, 0, 0, 0, 0, 0, 0, 0, 0, 0, 0, 0, 0, 0⟩) (csL (opC (CO) ev.t c)) rfl rfl (S3.out.kd.at 3 rfl) (Nat.le_refl 15) (sizeCsL _) (csL_one _) ?_; intro wz nz gz))
      refine ret_blk_tmp rfl rfl (w.heap.size + 1 + 1 + 1) 27 (csL (opC (CO) ev.t c)) _ rfl nz Tryd.underlying27 rfl (sizeCsL _) ?_
      rw [HE.out]
      exact ⟨_, _, _, rfl, (rowV_blk S3.out.r (S3.out.kd.at 3 rfl) gz int_ne_case), (S3.out.kd.store 3 rfl nz gz).bb⟩
end Go.Proofs.YtmbbigkpeefjjabDoor
