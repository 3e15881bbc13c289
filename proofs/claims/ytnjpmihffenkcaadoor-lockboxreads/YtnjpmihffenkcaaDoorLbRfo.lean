/-
  Ours: the reference's Ops.
-/
import Derived.Test.YtnjpmihffenkcaaDoorLbOps
import Derived.Test.YtnjpmihffenkcaaDoorLbRfh
import Derived.Test.YtnjpmihffenkcaaDoorAgCat
import Derived.Deep.RegionHeld3
import Derived.Deep.AppendLies
import Derived.MapKept
namespace Go.Proofs.YtnjpmihffenkcaaDoor
open Go.RowKit LbM LbF
/-- Append of one struct as a step of a region that draws its order. -/
theorem op_pushK {P : Program} {wr : World} {ops : Array Oper} {o : Oper} {a : Act} {K : Act → World → Prop} {Q : Exit → Act → World → Prop} {E : Prop} (hgd : o.guard = none) (s x : Operand) (t : TypeId)
    (ho : o.op = .call { callee := .builtin .append, args := #[s, x], argTypes := #[t, t] })
    (e : TypeId) (i : TypeInfo) (z : Value) (k by' : Nat) (ht : P.underlying t = some (.slice e)) (hi : P.info? e = some i) (hz : i.zero = some z) (hsize : i.size = k) (hby : i.bytes = by') (hzc : z.cells.size = k) (hk : 0 < k)
    (base : Nat) (v : Value) (n : Nat) (vs cs : List Value) (hc : cs.length = k) (hy : ∀ u ∈ cs, u.oneCell' = true) (hs : a.eval s = v) (hown : wr.ownsRow base e k v n vs) (hsz : base ≤ wr.heap.size)
    (hx : a.eval x = .slice (some ⟨wr.heap.size, 0, none⟩) 1 1) (hl : n + 1 ≤ maxLen) (hl2 : (n + 1) * by' ≤ 140737488355328)
    (h : ∀ a' n' c' w', w'.ownsRow base e k (.slice a' n' c') (n + 1) (vs ++ cs) → wr.grownBy w' v.ownBlock → K (a.put o.dst (.slice a' n' c')) w') :
    if Region.wanted o (yielded ops a.tmps) = true then Oper.wp P o a (wr.alloc (.cells cs.toArray e)) K Q else E := by
  have hW : (wr.alloc (.cells cs.toArray e)).heap.size = wr.heap.size + 1 := by simp
  refine step_append_lies _ hgd s x t ho base e i z k by' ht hi hz hsize hby hzc hk v n vs hs (World.ownsRow.alloc hown _) ⟨wr.heap.size, 0, none⟩ 1 1 cs hx (by omega) ?_ hy (by decide) hl hl2 (by omega) (wr.heap.size + 1) hW ?_
  · intro j u hj
    exact World.news_of_block (cs := cs.toArray) (t := e) (fr := (0, 0)) (MapKept.heap_alloc wr _).1 j u (by simpa using hj)
  · intro g cap w' hown' hgrow hg _
    refine h _ _ _ w' hown' ⟨hgrow.os, hgrow.tape, hgrow.output, Nat.le_trans (by simp) hgrow.size, fun k hk hn => ?_⟩
    rw [hgrow.block k (by omega) hn]
    exact (below_alloc wr (.cells cs.toArray e)).block k hk
/-- A row of operations of the call's own grows: what is of another type stays. -/
theorem blk_op {base n G : Nat} {ty : TypeId} {cs : List Value} {w w' : World} {v : Value} {xs : List Value} (h : w.ownsRow base 35 7 v n xs) (hg : w.grownBy w' v.ownBlock) (hb : Blk G ty cs w) (ne : ty ≠ 35) : Blk G ty cs w' :=
  hb.grown hg (fun e => by
    obtain ⟨_, cur, h2⟩ := own_is h e
    have e2 : w.heap[G]? = _ := hb
    rw [e2] at h2
    injection h2 with h2
    injection h2 with _ h2
    exact ne h2)
theorem bel_op {base B n : Nat} {w w1 w2 : World} {v : Value} {xs : List Value} (h : Below B w w1) (hr : w1.ownsRow base 35 7 v n xs) (hB : B ≤ base) (hs : B ≤ w1.heap.size) (hg : w1.grownBy w2 v.ownBlock) : Below B w w2 :=
  h.grown hg hs (fun k hk => Nat.le_trans hB (World.ownsRow.lt hr k hk).1)
set_option maxRecDepth 20000 in
set_option maxHeartbeats 8000000 in
theorem rops_at (b : Bt) (hl : b.its.length ≤ 1000000000) (v : Value) (w : World) (h : RdI w v b.its) : Calls Tryd.prog 14 #[btV b v] w fun e w' => if b.Has then ∃ a n c, e = .returned (.slice a n c) ∧ n = b.its.length ∧ w'.ownsRow w.heap.size 35 7 (.slice a n c) n (opsC b.num 0 b.its) ∧ Below w.heap.size w w' else e = .returned (.slice none 0 0) ∧ Below w.heap.size w w' := by
  obtain ⟨i0, hi, hz0, hz1, hz2⟩ := info_parts infoOp
  have HF : Hid (∀ w', Below w.heap.size w w' → Calls Tryd.prog 16 #[btV b v] w' fun e w2 => e = .returned (.bool (decide b.Has)) ∧ Below w'.heap.size w' w2) := fun w' q => rhas_at b v w' hl (h.later q)
  have NB : Hid (Blk w.heap.size 24 (btL b v) (w.alloc (.cells #[.int .i64 b.day, .int .i64 b.num, v] 24))) := Blk.new 24 (btL b v) w
  have BA : Hid (Below w.heap.size w (w.alloc (.cells #[.int .i64 b.day, .int .i64 b.num, v] 24))) := below_alloc w _
  obtain ⟨ao, cap, rfl, hcap, hno, H⟩ := h
  have CE : Hid (∀ w', Below w.heap.size w w' → ∀ (i : Nat) (x : It), b.its[i]? = some x → ∃ g o, ao = some ⟨g, o, none⟩ ∧ g < w.heap.size ∧ w'.rangeAt g (o + i * 2) (itL x)) := fun w' hb i x hi => by
    obtain ⟨g, o, e, lt, r⟩ := H i x hi
    exact ⟨g, o, e, lt, range_later r lt hb⟩
  have HB0 : Hid (b.Has → 1 ≤ b.num ∧ b.num ≤ 999999 ∧ 1 ≤ b.its.length ∧ b.its.length ≤ 9999) := fun hb => ⟨hb.2.2.1, hb.2.2.2.1, hb.2.2.2.2.1, hb.2.2.2.2.2.1⟩
  generalize hANS : (fun (e : Ending) (w' : World) => if b.Has then ∃ a n c, e = .returned (.slice a n c) ∧ n = b.its.length ∧ w'.ownsRow w.heap.size 35 7 (.slice a n c) n (opsC b.num 0 b.its) ∧ Below w.heap.size w w' else e = .returned (.slice none 0 0) ∧ Below w.heap.size w w') = ANS
  have AN1 : Hid (b.Has → ∀ a n c w', n = b.its.length → w'.ownsRow w.heap.size 35 7 (.slice a n c) n (opsC b.num 0 b.its) → Below w.heap.size w w' → ANS (.returned (.slice a n c)) w') := fun hb a n c w' h1 h2 h3 => by rw [← hANS]; show if b.Has then _ else _; rw [if_pos hb]; exact ⟨a, n, c, rfl, h1, h2, h3⟩
  have AN2 : Hid (¬ b.Has → ∀ w', Below w.heap.size w w' → ANS (.returned (.slice none 0 0)) w') := fun hb w' h3 => by rw [← hANS]; show if b.Has then _ else _; rw [if_neg hb]; exact ⟨rfl, h3⟩
  clear hANS
  obtain ⟨L, hL⟩ : ∃ L, b.its.length = L := ⟨_, rfl⟩
  have GI : Hid (∀ i, i < L → ∃ x, b.its[i]? = some x) := fun i hi => ⟨_, List.getElem?_eq_getElem (by omega)⟩
  have TK : Hid (b.its.take L = b.its) := by show _ = _; rw [← hL, List.take_length]
  simp only [hL] at *
  clear hL H hno
  go_enter Tryd.func14, Tryd.ntmps14
  go_upto_region 1 with fail
  generalize w.alloc (.cells #[.int .i64 b.day, .int .i64 b.num, .slice ao L cap] 24) = w1 at *
  go_wp2_with (refine step_load rfl 24 _ rfl w.heap.size 0 rfl (btL b (.slice ao L cap)) _ (Blk.all NB.out) Tryd.underlying24 rfl (sizeBt _ _) ?_)
  refine (HF.out w1 BA.out).mono ?_
  rintro e w2 ⟨rfl, b2⟩
  have S2 : Hid (Blk w.heap.size 24 (btL b (.slice ao L cap)) w2 ∧ Below w.heap.size w w2) := ⟨NB.out.below b2, below_trans BA.out b2⟩
  clear b2 NB BA
  by_cases hb : b.Has
  · rw [decide_eq_true hb]
    have HB : Hid b.Has := hb
    obtain ⟨n1, n2, l1, l2⟩ := HB0.out hb
    clear hb HB0
    obtain ⟨num, hnum⟩ : ∃ n, b.num = n := ⟨_, rfl⟩
    have HNU : Hid (b.num = num) := hnum
    rw [hnum] at n1 n2
    clear hnum
    go_wp2_with fail
    go_loopw [3, 4] (fun vf vk wr => ∃ (i : Nat) (a : Option Addr) (n c : Nat), vk = .int .i64 (i : Int) ∧ i ≤ L ∧ vf = .slice a n c ∧ n = i ∧ Hid (Blk w.heap.size 24 (btL b (.slice ao L cap)) wr ∧ Below w.heap.size w wr ∧ wr.ownsRow w.heap.size 35 7 (.slice a n c) n (opsC num 0 (b.its.take i)))) (fun _ vk _ => L - (intOf vk).toNat)
    case atStart => exact ⟨0, none, 0, 0, rfl, by omega, rfl, rfl, S2.out.1, S2.out.2, by simpa [opsC] using World.ownsRow_nil _ _ _ _⟩
    case round =>
      obtain ⟨i, a, n, c, rfl, hik, rfl, rfl, HR⟩ := hrel
      clear S2
      have c2 := HR.out.1.cell 2 _ rfl
      by_cases hlt : (n : Int) < (L : Int)
      · obtain ⟨x, hx⟩ := GI.out n (by omega)
        obtain ⟨g, o, rfl, lt, rg⟩ := CE.out wr HR.out.2.1 n _ hx
        have ED : Hid (opsC num 0 (b.its.take (n + 1)) = opsC num 0 (b.its.take n) ++ opl num n x) := opsC_snoc hx
        obtain ⟨xl, xa⟩ := x
        have e0 := rg 0 _ rfl
        have e1 : wr.cell? ⟨g, o + n * 2 + 1, none⟩ = some (.int .i64 xa) := rg 1 _ rfl
        rw [Nat.add_zero] at e0
        have c1 := HR.out.1.cell 1 _ rfl
        rw [HNU.out] at c1
        have own1 : Hid (wr.drew.ownsRow w.heap.size 35 7 (.slice a n c) n (opsC num 0 (b.its.take n))) := HR.out.2.2
        have hsz1 : w.heap.size ≤ wr.drew.heap.size := HR.out.2.1.size
        have CC : Hid (wr.drew.cell? ⟨w.heap.size, 1, none⟩ = some (.int .i64 num) ∧ wr.drew.cell? ⟨w.heap.size, 2, none⟩ = some (.slice (some ⟨g, o, none⟩) L cap) ∧ wr.drew.cell? ⟨g, o + n * 2, none⟩ = some (.int .i64 xl) ∧ wr.drew.cell? ⟨g, o + n * 2 + 1, none⟩ = some (.int .i64 xa)) := ⟨c1, c2, e0, e1⟩
        have b9 : wr.grownBy (wr.alloc (.cells #[.int .i64 2, .int .i64 xl, .int .i64 xa, .int .i64 0, .int .i64 (num * 10000 + (n : Int) + 1), .int .i64 0, .string ⟨#[]⟩] 35)).drew (Value.slice a n c).ownBlock := grownBy_below (Below.drew (below_alloc _ _)) _
        have KE : Hid (∀ w', wr.grownBy w' (Value.slice a n c).ownBlock → w'.cell? ⟨w.heap.size, 1, none⟩ = some (.int .i64 num) ∧ w'.cell? ⟨w.heap.size, 2, none⟩ = some (.slice (some ⟨g, o, none⟩) L cap) ∧ w'.cell? ⟨g, o + n * 2, none⟩ = some (.int .i64 xl) ∧ w'.cell? ⟨g, o + n * 2 + 1, none⟩ = some (.int .i64 xa)) := fun w' hg => by
          have bw : Below w.heap.size wr w' := bel_op (Below.refl _ _) HR.out.2.2 (Nat.le_refl _) hsz1 hg
          have bk := blk_op HR.out.2.2 hg HR.out.1 (by decide)
          have bk1 := bk.cell 1 _ rfl
          rw [HNU.out] at bk1
          exact ⟨bk1, bk.cell 2 _ rfl, (bw.cell (p := ⟨g, o + n * 2, none⟩) lt).trans e0, (bw.cell (p := ⟨g, o + n * 2 + 1, none⟩) lt).trans e1⟩
        have hw1 : IntKind.i64.wrap (num * 10000) = num * 10000 := by simp [IntKind.wrap, IntKind.bits, IntKind.signed]; omega
        have hw2 : IntKind.i64.wrap (num * 10000 + (n : Int)) = num * 10000 + (n : Int) := by simp [IntKind.wrap, IntKind.bits, IntKind.signed]; omega
        have hw3 : IntKind.i64.wrap (num * 10000 + (n : Int) + 1) = num * 10000 + (n : Int) + 1 := by simp [IntKind.wrap, IntKind.bits, IntKind.signed]; omega
        have m1 : n + 1 ≤ maxLen := by unfold maxLen; omega
        have m2 : (n + 1) * 64 ≤ 140737488355328 := by omega
        clear rg hx
        go_upto_region 7 with fail
        go_region_held3 (fun w' => w'.cell? ⟨w.heap.size, 1, none⟩ = some (.int .i64 num) ∧ w'.cell? ⟨w.heap.size, 2, none⟩ = some (.slice (some ⟨g, o, none⟩) L cap) ∧ w'.cell? ⟨g, o + n * 2, none⟩ = some (.int .i64 xl) ∧ w'.cell? ⟨g, o + n * 2 + 1, none⟩ = some (.int .i64 xa)) (first | assumption | exact CC.out | exact KE.out _ b9 | exact KE.out _ ⟨g5.os, g5.tape, g5.output, g5.size, g5.block⟩) (first | (refine op_pushK (wr := wr.drew) rfl (.tmp 15) (.tmp 35) 31 rfl 35 i0 (.agg #[.int .i64 0, .int .i64 0, .int .i64 0, .int .i64 0, .int .i64 0, .int .i64 0, .string ⟨#[]⟩]) 7 64 Tryd.underlying31 hi hz0 hz1 hz2 rfl (by decide) w.heap.size (.slice a n c) n (opsC num 0 (b.its.take n)) (opl num n ⟨xl, xa⟩) rfl (opl_one _ _ _) rfl own1.out hsz1 rfl m1 m2 ?_; intro a5 n5 c5 w5 r5 g5))
        have R5 : Hid (Blk w.heap.size 24 (btL b (.slice (some ⟨g, o, none⟩) L cap)) w5 ∧ Below w.heap.size w w5 ∧ n5 = n + 1 ∧ w5.ownsRow w.heap.size 35 7 (.slice a5 n5 c5) n5 (opsC num 0 (b.its.take (n + 1)))) := by
          have g6 : wr.grownBy w5 (Value.slice a n c).ownBlock := ⟨g5.os, g5.tape, g5.output, g5.size, g5.block⟩
          have hn5 : n5 = n + 1 := by
            rcases r5.2 with ⟨e, h0⟩ | ⟨g', cap', cur, e, _⟩
            · omega
            · injection e
          subst hn5
          exact ⟨blk_op HR.out.2.2 g6 HR.out.1 (by decide), bel_op HR.out.2.1 HR.out.2.2 (Nat.le_refl _) hsz1 g6, rfl, by rw [ED.out]; exact r5⟩
        clear r5 g5 own1 KE CC b9 e0 e1 c1 c2 HR ED hw1 hw2 hw3 m1 m2 hsz1
        go_wp2_with fail
        go_roundw
        case rel => exact ⟨n + 1, a5, n5, c5, by go_num, by omega, rfl, R5.out.2.2.1, R5.out.1, R5.out.2.1, R5.out.2.2.2⟩
        case measure => simp [intOf]; omega
      · obtain rfl : n = L := by omega
        have F : Hid (Below w.heap.size w wr ∧ wr.ownsRow w.heap.size 35 7 (.slice a n c) n (opsC b.num 0 b.its)) := ⟨HR.out.2.1, by have := HR.out.2.2; rw [TK.out, ← HNU.out] at this; exact this⟩
        clear HR
        go_wp2_with fail
        exact AN1.out HB.out _ _ _ _ rfl F.out.2 F.out.1
  · rw [decide_eq_false hb]
    have HB : Hid (¬ b.Has) := hb
    clear hb
    go_wp2_with fail
    exact AN2.out HB.out _ S2.out.2
end Go.Proofs.YtnjpmihffenkcaaDoor
