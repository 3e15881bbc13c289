/-
  Ours: Post.
-/
import Derived.Test.YtgdmkcbbomfmdaaGreatDoorLedEnt
import Derived.Test.YtgdmkcbbomfmdaaGreatDoorLedMove
namespace Go.Proofs.YtgdmkcbbomfmdaaGreatDoor
open Go.RowKit LedM

namespace LedM
def mv1 (e : Ent) (j : Int) : Int := (if e.d = j then e.a else 0) - (if e.c = j then e.a else 0)
def mv (es : List Ent) (j : Int) : Int := total (es.map fun e => mv1 e j)
def moved (l : List Int) (es : List Ent) : List Int := (List.range 12).map fun j => l.getD j 0 + mv es (j : Int)
theorem moved_len (l : List Int) (es : List Ent) : (moved l es).length = 12 := by simp [moved]
theorem moved_at (l : List Int) (es : List Ent) (j : Nat) (hj : j < 12) : (moved l es).getD j 0 = l.getD j 0 + mv es (j : Int) := by simp [moved, List.getD_eq_getElem?_getD, hj]
theorem mv_push (es : List Ent) (e : Ent) (j : Int) : mv (es ++ [e]) j = mv es j + mv1 e j := by simp [mv, total_push]
theorem mv_append (es fs : List Ent) (j : Int) : mv (es ++ fs) j = mv es j + mv fs j := by simp [mv, total_append]
theorem entE_zero {e : Ent} (h : entE e = 0) : isA e.d = true ∧ isA e.c = true ∧ e.d ≠ e.c ∧ 1 ≤ e.a := by
  unfold entE at h
  split at h
  · cases h
  · rename_i h1
    split at h
    · cases h
    · rename_i h2
      simp at h1
      exact ⟨h1.1.1, h1.1.2, h1.2, by omega⟩
theorem fault_zero : ∀ {es : List Ent}, faultE es = 0 → ∀ e ∈ es, entE e = 0
  | [], _, e, he => by cases he
  | x :: r, h, e, he => by
    simp only [faultE] at h
    split at h
    · rename_i h0
      rcases List.mem_cons.1 he with rfl | he
      · exact h0
      · exact fault_zero h e he
    · rename_i h0; exact absurd h h0
theorem fault_all : ∀ {es : List Ent}, (∀ e ∈ es, entE e = 0) → faultE es = 0
  | [], _ => rfl
  | x :: r, h => by
    simp only [faultE]
    rw [if_pos (h x (by simp))]
    exact fault_all (fun e he => h e (by simp [he]))
theorem mv_bound : ∀ {es : List Ent} (j : Int), (∀ e ∈ es, EntOk e) → -(18446744073709551616 * (es.length : Int)) ≤ mv es j ∧ mv es j ≤ 18446744073709551616 * (es.length : Int)
  | [], j, _ => by simp [mv, total]
  | e :: r, j, h => by
    have ih := mv_bound (es := r) j (fun x hx => h x (by simp [hx]))
    have he := (h e (by simp)).2.2
    have : mv (e :: r) j = mv1 e j + mv r j := rfl
    rw [this, List.length_cons]
    unfold mv1 i64 at *
    split <;> split <;> omega
theorem movedS_at {ss : List Int} (hs : ss.length = 12) (d c : Nat) (a : Int) (hd : d < 12) (hc : c < 12) (hn : d ≠ c) (j : Nat) : (movedS ss d c a).getD j 0 = ss.getD j 0 + ((if (d : Int) = (j : Int) then a else 0) - (if (c : Int) = (j : Int) then a else 0)) := by
  unfold movedS
  rw [getD_set (by rw [List.length_set]; omega), getD_set (by omega), getD_set (by omega)]
  by_cases h1 : j = c
  · subst h1
    rw [if_pos rfl, if_neg (fun e => hn e.symm), if_neg (by omega), if_pos rfl]; omega
  · by_cases h2 : j = d
    · subst h2
      rw [if_neg h1, if_pos rfl, if_pos rfl, if_neg (by omega)]; omega
    · rw [if_neg h1, if_neg h2, if_neg (by omega), if_neg (by omega)]; omega
theorem movedS_len (ss : List Int) (d c : Nat) (a : Int) : (movedS ss d c a).length = ss.length := by simp [movedS]
/-- What Post answers. -/
def postE (l : List Int) (es : List Ent) : Int := if faultE es = 0 then (if fitsL (moved l es) && rangeB (moved l es) then (if sidesB (moved l es) then 0 else 81) else 3) else faultE es
def postB (l : List Int) (es : List Ent) : List Int := if postE l es = 0 then moved l es else l
theorem fits_ok {ss : List Int} (hs : ss.length = 12) (h : fitsL ss = true) : BkOk ss := ⟨hs, fun k => by
  by_cases hk : k < 12
  · have := all_at h k hk
    exact of_decide_eq_true (p := -9223372036854775808 ≤ ss.getD k 0 ∧ ss.getD k 0 ≤ 9223372036854775807) this
  · rw [List.getD_eq_getElem?_getD, List.getElem?_eq_none (by omega)]; exact ⟨by simp, by simp⟩⟩
theorem zero_ok : BkOk zeroL := ⟨rfl, fun k => by rw [zeroL_at]; exact ⟨by omega, by omega⟩⟩
theorem postB_ok {l : List Int} {es : List Ent} (hl : BkOk l) : BkOk (postB l es) := by
  unfold postB
  split
  · rename_i h
    unfold postE at h
    split at h
    · split at h
      · rename_i h1
        simp only [Bool.and_eq_true] at h1
        exact fits_ok (moved_len _ _) h1.1
      · cases h
    · rename_i h1; exact absurd h h1
  · exact hl
end LedM

/-- The book that was handed in, and the place of the answer. -/
structure St (w : World) (Q : Nat) (l : List Int) (wr : World) : Prop where
  bk : Blk Q 31 (bkL l) wr
  rs : Blk (Q + 1) 31 (bkL zeroL) wr
  bb : Below w.heap.size w wr
theorem St.below {w : World} {Q : Nat} {l : List Int} {wr w' : World} (h : St w Q l wr) (hb : Below wr.heap.size wr w') : St w Q l w' := ⟨h.bk.below hb, h.rs.below hb, below_trans h.bb hb⟩
theorem St.alloc {w : World} {Q : Nat} {l : List Int} {wr : World} (h : St w Q l wr) (o : Obj) : St w Q l (wr.alloc o) := h.below (below_alloc wr o)
theorem St.grown {w : World} {Q G : Nat} {l : List Int} {wr w' : World} (h : St w Q l wr) (hg : wr.grownBy w' (some G)) (hw : w.heap.size ≤ Q) (hG : Q + 1 < G) : St w Q l w' := ⟨h.bk.grown hg (by simp; omega), h.rs.grown hg (by simp; omega), below_row h.bb hg (by omega)⟩

theorem z24 : (smL zeroL).toArray = #[Value.int .u64 0, Value.int .u64 0, Value.int .u64 0, Value.int .u64 0, Value.int .u64 0, Value.int .u64 0, Value.int .u64 0, Value.int .u64 0, Value.int .u64 0, Value.int .u64 0, Value.int .u64 0, Value.int .u64 0, Value.int .u64 0, Value.int .u64 0, Value.int .u64 0, Value.int .u64 0, Value.int .u64 0, Value.int .u64 0, Value.int .u64 0, Value.int .u64 0, Value.int .u64 0, Value.int .u64 0, Value.int .u64 0, Value.int .u64 0] := by kernel_rfl
theorem zadd {l : List Int} (h : l.length = 12) : addL zeroL l = l := ext12 (addL_len _ _) h (fun j hj => by rw [addL_at _ _ j hj, zeroL_at, Int.zero_add])
theorem infoSl {ss : List Int} (h : ss.length = 12) : (Tryz.prog.info? 128).map (·.size) = some (smL ss).length := by rw [smL_len, h]; exact infoS
theorem infoBl {l : List Int} (h : l.length = 12) : (Tryz.prog.info? 31).map (·.size) = some (bkL l).length := by rw [bkL_len, h]; exact cellsBk
theorem store_all {cs vs : List Value} (h : vs.length = cs.length) : cs.take 0 ++ vs ++ cs.drop (0 + vs.length) = vs := by rw [List.take_zero, List.nil_append, List.drop_eq_nil_of_le (by omega), List.append_nil]

set_option maxRecDepth 20000 in
set_option maxHeartbeats 1000000 in
theorem post_at (l : List Int) (es : List Ent) (v : Value) (w : World) (hl : BkOk l) (hes : ∀ e ∈ es, EntOk e) (hn : es.length ≤ 1000000000) (h : RdE w v es) (hT : TabD w) :
    Calls Tryz.prog 48 #[.agg (bkL l).toArray, v] w fun e w' => e = .returned (.tuple #[.agg (bkL (postB l es)).toArray, .int .i64 (postE l es)]) ∧ Below w.heap.size w w' := by
  have S0 : St w w.heap.size l ((w.alloc (.cells (bkL l).toArray 31)).alloc (.cells #[Value.int .i64 0, Value.int .i64 0, Value.int .i64 0, Value.int .i64 0, Value.int .i64 0, Value.int .i64 0, Value.int .i64 0, Value.int .i64 0, Value.int .i64 0, Value.int .i64 0, Value.int .i64 0, Value.int .i64 0] 31)) := ⟨(Blk.new 31 (bkL l) w).old _, Blk.new2 31 (bkL zeroL) w _, (below_alloc w _).alloc (by simp) _⟩
  have FA : Hid (∀ w', Below w.heap.size w w' → Calls Tryz.prog 84 #[v] w' fun e w2 => e = .returned (.int .i64 (faultE es)) ∧ Below w'.heap.size w' w2) := fun w' hb => fault_at es v w' hn (h.later hb)
  have SA : Hid (∀ w', Calls Tryz.prog 85 #[.agg #[Value.int .u64 0, Value.int .u64 0, Value.int .u64 0, Value.int .u64 0, Value.int .u64 0, Value.int .u64 0, Value.int .u64 0, Value.int .u64 0, Value.int .u64 0, Value.int .u64 0, Value.int .u64 0, Value.int .u64 0, Value.int .u64 0, Value.int .u64 0, Value.int .u64 0, Value.int .u64 0, Value.int .u64 0, Value.int .u64 0, Value.int .u64 0, Value.int .u64 0, Value.int .u64 0, Value.int .u64 0, Value.int .u64 0, Value.int .u64 0], .agg (bkL l).toArray] w' fun e w2 => e = .returned (.agg (smL l).toArray) ∧ Below w'.heap.size w' w2) := fun w' => by
    have := sadd_at zeroL l w' rfl hl
    rw [z24, zadd hl.1] at this
    exact this
  have SM : Hid (∀ (ss : List Int) (e : Ent) (w' : World), ss.length = 12 → e ∈ es → entE e = 0 → Calls Tryz.prog 86 #[.agg (smL ss).toArray, .agg (entL e).toArray] w' fun en w2 => en = .returned (.agg (smL (movedS ss e.d.toNat e.c.toNat e.a)).toArray) ∧ Below w'.heap.size w' w2) := fun ss e w' h1 h2 h3 => by
    obtain ⟨a1, a2, _, _⟩ := entE_zero h3
    have b1 : 0 ≤ e.d ∧ e.d < 12 := by simpa [isA] using a1
    have b2 : 0 ≤ e.c ∧ e.c < 12 := by simpa [isA] using a2
    have ok := (hes e h2).2.2
    have := smove_at ss e.d.toNat e.c.toNat e.a w' h1 (by omega) (by omega) ok.1 ok.2
    rw [show ((e.d.toNat : Nat) : Int) = e.d from by omega, show ((e.c.toNat : Nat) : Int) = e.c from by omega] at this
    exact this
  have MS : Hid (∀ (cur : List Int) (k : Nat), cur.length = 12 → k < es.length → entE (eN es k) = 0 → (∀ j, j < 12 → cur.getD j 0 = l.getD j 0 + mv (es.take k) (j : Int)) → ∀ j, j < 12 → (movedS cur (eN es k).d.toNat (eN es k).c.toNat (eN es k).a).getD j 0 = l.getD j 0 + mv (es.take (k + 1)) (j : Int)) := fun cur k h1 h2 h3 h4 j hj => by
    obtain ⟨a1, a2, a3, _⟩ := entE_zero h3
    have b1 : 0 ≤ (eN es k).d ∧ (eN es k).d < 12 := by simpa [isA] using a1
    have b2 : 0 ≤ (eN es k).c ∧ (eN es k).c < 12 := by simpa [isA] using a2
    rw [movedS_at h1 _ _ _ (by omega) (by omega) (by omega), h4 j hj, take_eN h2, mv_push]
    unfold mv1
    rw [show (((eN es k).d.toNat : Nat) : Int) = (eN es k).d from by omega, show (((eN es k).c.toNat : Nat) : Int) = (eN es k).c from by omega]
    omega
  have SB : Hid (∀ w', Calls Tryz.prog 87 #[.agg (smL (moved l es)).toArray] w' fun e w2 => e = .returned (.tuple #[.agg (bkL (bookL (moved l es))).toArray, .bool (fitsL (moved l es))]) ∧ Below w'.heap.size w' w2) := fun w' => sbook_at _ w' (moved_len _ _) (fun j hj => by
    have b := mv_bound (j : Int) hes
    have c := hl.2 j
    rw [moved_at _ _ j hj]
    unfold i64 at c
    show _ ∧ _
    omega)
  have BO : Hid (BkOk (bookL (moved l es))) := by
    show BkOk _
    unfold bookL
    cases e : fitsL (moved l es)
    · exact zero_ok
    · exact fits_ok (moved_len _ _) e
  have IR : Hid (∀ w', Calls Tryz.prog 88 #[.agg (bkL (bookL (moved l es))).toArray] w' fun e w2 => e = .returned (.bool (rangeB (bookL (moved l es)))) ∧ Below w'.heap.size w' w2) := fun w' => inRange_at _ w' BO.out
  have SI : Hid (∀ w', Below w.heap.size w w' → Calls Tryz.prog 89 #[.agg (bkL (bookL (moved l es))).toArray] w' fun e w2 => e = .returned (.bool (sidesB (bookL (moved l es)))) ∧ Below w'.heap.size w' w2) := fun w' hb => sides_at _ w' BO.out (hT.later hb)
  have RD : Hid (∀ w', Below w.heap.size w w' → RdE w' v es) := fun w' hb => h.later hb
  obtain ⟨ao, cap, rfl, hcap, hno, _⟩ := h
  have CE : Hid (∀ w', Below w.heap.size w w' → ∀ i, i < es.length → ∃ g o, ao = some ⟨g, o, none⟩ ∧ w'.rangeAt g (o + i * 3) (entL (eN es i))) := fun w' hb i hi => by
    obtain ⟨ao', cap', e, _, _, H⟩ := RD.out w' hb
    injection e with e1 e2 e3
    subst e1
    obtain ⟨g, o, e, _, r⟩ := H i hi
    exact ⟨g, o, e, r⟩
  obtain ⟨L, hL⟩ : ∃ L, es.length = L := ⟨_, rfl⟩
  have HL : Hid (es.length = L) := hL
  rw [hL] at hcap hn CE FA RD ⊢
  obtain ⟨R, HR⟩ : ∃ R, Hid (postE l es = R) := ⟨_, rfl⟩
  obtain ⟨B, HB⟩ : ∃ B, Hid (postB l es = B) := ⟨_, rfl⟩
  rw [HR.out, HB.out]
  have LL : Hid (l.length = 12) := hl.1
  obtain ⟨F, HF⟩ : ∃ F, Hid (faultE es = F) := ⟨_, rfl⟩
  rw [HF.out] at FA
  clear hes hL RD hT hl
  go_enter Tryz.func48, Tryz.ntmps48
  go_upto_region 1 with fail
  generalize (w.alloc (.cells (bkL l).toArray 31)).alloc (.cells #[Value.int .i64 0, Value.int .i64 0, Value.int .i64 0, Value.int .i64 0, Value.int .i64 0, Value.int .i64 0, Value.int .i64 0, Value.int .i64 0, Value.int .i64 0, Value.int .i64 0, Value.int .i64 0, Value.int .i64 0] 31) = w2 at *
  obtain ⟨Q, hQ⟩ : ∃ Q, w.heap.size = Q := ⟨_, rfl⟩
  have HQ : Hid (w.heap.size = Q) := hQ
  have S1 : Hid (St w Q l w2) := by rw [← hQ]; exact S0
  rw [hQ]
  clear hQ S0
  go_wp2_with fail
  refine (FA.out _ S1.out.bb).mono ?_
  rintro e w3 ⟨rfl, b3⟩
  have S3 : Hid (St w Q l w3) := S1.out.below b3
  clear S1 b3 FA
  by_cases hf : F = 0
  · subst hf
    go_wp2_with (first
      | (refine step_load rfl 31 _ rfl Q 0 rfl (bkL l) _ S3.out.bk.all Tryz.underlying31 rfl (infoBl LL.out) ?_))
    refine (SA.out _).mono ?_
    rintro e w4 ⟨rfl, b4⟩
    have S4 : Hid (St w Q l w4) := S3.out.below b4
    have NB : Hid (Blk w4.heap.size 128 (smL zeroL) (w4.alloc (.cells #[Value.int .u64 0, Value.int .u64 0, Value.int .u64 0, Value.int .u64 0, Value.int .u64 0, Value.int .u64 0, Value.int .u64 0, Value.int .u64 0, Value.int .u64 0, Value.int .u64 0, Value.int .u64 0, Value.int .u64 0, Value.int .u64 0, Value.int .u64 0, Value.int .u64 0, Value.int .u64 0, Value.int .u64 0, Value.int .u64 0, Value.int .u64 0, Value.int .u64 0, Value.int .u64 0, Value.int .u64 0, Value.int .u64 0, Value.int .u64 0] 128))) := by
      have := Blk.new 128 (smL zeroL) w4
      rw [z24] at this
      exact this
    have S4' : Hid (St w Q l (w4.alloc (.cells #[Value.int .u64 0, Value.int .u64 0, Value.int .u64 0, Value.int .u64 0, Value.int .u64 0, Value.int .u64 0, Value.int .u64 0, Value.int .u64 0, Value.int .u64 0, Value.int .u64 0, Value.int .u64 0, Value.int .u64 0, Value.int .u64 0, Value.int .u64 0, Value.int .u64 0, Value.int .u64 0, Value.int .u64 0, Value.int .u64 0, Value.int .u64 0, Value.int .u64 0, Value.int .u64 0, Value.int .u64 0, Value.int .u64 0, Value.int .u64 0] 128)) ∧ Q + 1 < w4.heap.size) := ⟨S4.out.alloc _, S4.out.rs.lt⟩
    clear S3 S4 b4 SA
    go_wp2_with (refine step_store rfl 128 _ _ rfl w4.heap.size 0 128 (smL zeroL) (smL l) rfl rfl NB.out (by rw [smL_len, LL.out]; exact Nat.le_refl _) (infoSl LL.out) (smL_one _) ?_; intro w5 nb5 g5; rw [store_all (by rw [smL_len, LL.out]; rfl)] at nb5; have N5 : Hid (Blk w4.heap.size 128 (smL l) w5) := nb5; have S5 : Hid (St w Q l w5) := S4'.out.1.grown g5 (by have := HQ.out; omega) S4'.out.2; clear nb5 g5)
    obtain ⟨G, hG⟩ : ∃ G, w4.heap.size = G := ⟨_, rfl⟩
    have hQG : Q + 1 < G := by have := S4'.out.2; omega
    rw [hG] at N5 ⊢
    clear S4' NB hG
    clear w4
    go_loopw [9, 23] (fun _ vk wr => ∃ (k : Nat) (cur : List Int), vk = .int .i64 (k : Int) ∧ k ≤ L ∧ Hid (cur.length = 12) ∧ Hid (∀ j, j < 12 → cur.getD j 0 = l.getD j 0 + mv (es.take k) (j : Int)) ∧ Blk G 128 (smL cur) wr ∧ St w Q l wr) (fun _ vk _ => L - (intOf vk).toNat)
    case atStart => exact ⟨0, l, rfl, by omega, LL.out, (fun j hj => by simp [mv, total]), N5.out, S5.out⟩
    case round =>
      clear N5 S5
      obtain ⟨k, cur, rfl, hk, LC, CU, nb, st⟩ := hrel
      by_cases hlt : (k : Int) < (L : Int)
      · obtain ⟨g, o, rfl, rg⟩ := CE.out wr st.bb k (by omega)
        have hgt : G < wr.heap.size := nb.lt
        have RG : Hid (wr.rangeAt g (o + k * 3) (entL (eN es k))) := rg
        have NE : Hid (Blk wr.heap.size 79 [.int .i64 0, .int .i64 0, .int .i64 0] (wr.alloc (.cells #[.int .i64 0, .int .i64 0, .int .i64 0] 79))) := Blk.new 79 [.int .i64 0, .int .i64 0, .int .i64 0] wr
        have NB : Hid (Blk G 128 (smL cur) (wr.alloc (.cells #[.int .i64 0, .int .i64 0, .int .i64 0] 79))) := nb.old _
        have ST : Hid (St w Q l (wr.alloc (.cells #[.int .i64 0, .int .i64 0, .int .i64 0] 79))) := st.alloc _
        have EZ : Hid (entE (eN es k) = 0) := fault_zero HF.out _ (by rw [eN_at (by have := HL.out; omega)]; exact List.getElem_mem _)
        have SK : Hid (∀ w', Calls Tryz.prog 86 #[.agg (smL cur).toArray, .agg (entL (eN es k)).toArray] w' fun en w2 => en = .returned (.agg (smL (movedS cur (eN es k).d.toNat (eN es k).c.toNat (eN es k).a)).toArray) ∧ Below w'.heap.size w' w2) := fun w' => SM.out cur (eN es k) w' LC.out (by rw [eN_at (by have := HL.out; omega)]; exact List.getElem_mem _) EZ.out
        have NX : Hid ((movedS cur (eN es k).d.toNat (eN es k).c.toNat (eN es k).a).length = 12 ∧ ∀ j, j < 12 → (movedS cur (eN es k).d.toNat (eN es k).c.toNat (eN es k).a).getD j 0 = l.getD j 0 + mv (es.take (k + 1)) (j : Int)) := ⟨by rw [movedS_len]; exact LC.out, MS.out cur k LC.out (by have := HL.out; omega) EZ.out CU.out⟩
        generalize movedS cur (eN es k).d.toNat (eN es k).c.toNat (eN es k).a = nxt at *
        generalize eN es k = x at *
        clear rg nb st CE SM MS SB BO IR SI EZ CU
        go_wp2_with (first
          | (refine step_load rfl 79 _ rfl g (o + k * 3) rfl (entL x) _ RG.out Tryz.underlying79 rfl (infoE _) ?_)
          | (refine step_store rfl 79 _ _ rfl wr.heap.size 0 79 [.int .i64 0, .int .i64 0, .int .i64 0] (entL x) rfl rfl NE.out (Nat.le_refl _) (infoE _) (oneE _) ?_; intro w2 nb2 g2; have E2 : Hid (Blk wr.heap.size 79 (entL x) w2) := nb2; have N2 : Hid (Blk G 128 (smL cur) w2) := NB.out.grown g2 (by simp; omega); have S2 : Hid (St w Q l w2) := ST.out.grown g2 (by have := HQ.out; omega) (by omega); clear nb2 g2 NE NB ST)
          | (refine step_load rfl 128 _ rfl G 0 rfl (smL cur) _ N2.out.all Tryz.underlying128 rfl (infoSl LC.out) ?_)
          | (refine step_load rfl 79 _ rfl wr.heap.size 0 rfl (entL x) _ E2.out.all Tryz.underlying79 rfl (infoE _) ?_))
        refine (SK.out _).mono ?_
        rintro e w3 ⟨rfl, b3⟩
        have N3 : Hid (Blk G 128 (smL cur) w3) := N2.out.below b3
        have S3 : Hid (St w Q l w3) := S2.out.below b3
        clear N2 S2 E2 b3 SK
        go_wp2_with (refine step_store rfl 128 _ _ rfl G 0 128 (smL cur) (smL nxt) rfl rfl N3.out (by rw [smL_len, smL_len, LC.out, NX.out.1]; exact Nat.le_refl _) (infoSl NX.out.1) (smL_one _) ?_; intro w5 nb5 g5)
        rw [store_all (by rw [smL_len, smL_len, LC.out, NX.out.1])] at nb5
        go_roundw
        case rel => exact ⟨k + 1, nxt, by go_num, by omega, NX.out.1, NX.out.2, nb5, S3.out.grown g5 (by have := HQ.out; omega) hQG⟩
        case measure => simp [intOf]; omega
      · obtain rfl : k = L := by omega
        have CM : Hid (cur = moved l es) := ext12 LC.out (moved_len _ _) (fun j hj => by rw [CU.out j hj, moved_at _ _ j hj, List.take_of_length_le (by have := HL.out; omega)])
        rw [CM.out] at nb
        have NB : Hid (Blk G 128 (smL (moved l es)) wr) := nb
        have ST : Hid (St w Q l wr) := st
        have ML : Hid ((moved l es).length = 12) := moved_len l es
        have RE : Hid ((R = if fitsL (moved l es) && rangeB (moved l es) then (if sidesB (moved l es) then 0 else 81) else 3) ∧ B = if R = 0 then moved l es else l) := by
          have e1 := HR.out
          unfold postE at e1
          rw [HF.out, if_pos rfl] at e1
          refine ⟨e1.symm, ?_⟩
          have e2 := HB.out
          unfold postB at e2
          rw [HR.out] at e2
          exact e2.symm
        have BE : Hid (fitsL (moved l es) = true → bookL (moved l es) = moved l es) := fun h => by unfold bookL; rw [h]; rfl
        clear nb st CE SM MS CM CU LC hlt HR HB HF
        generalize moved l es = m at *
        generalize bookL m = bm at *
        go_wp2_with (refine step_load rfl 128 _ rfl G 0 rfl (smL m) _ NB.out.all Tryz.underlying128 rfl (infoSl ML.out) ?_)
        refine (SB.out _).mono ?_
        rintro e w6 ⟨rfl, b6⟩
        have S6 : Hid (St w Q l w6) := ST.out.below b6
        have N6 : Hid (Blk w6.heap.size 31 (bkL zeroL) (w6.alloc (.cells #[Value.int .i64 0, Value.int .i64 0, Value.int .i64 0, Value.int .i64 0, Value.int .i64 0, Value.int .i64 0, Value.int .i64 0, Value.int .i64 0, Value.int .i64 0, Value.int .i64 0, Value.int .i64 0, Value.int .i64 0] 31))) := Blk.new 31 (bkL zeroL) w6
        have S6' : Hid (St w Q l (w6.alloc (.cells #[Value.int .i64 0, Value.int .i64 0, Value.int .i64 0, Value.int .i64 0, Value.int .i64 0, Value.int .i64 0, Value.int .i64 0, Value.int .i64 0, Value.int .i64 0, Value.int .i64 0, Value.int .i64 0, Value.int .i64 0] 31)) ∧ Q + 1 < w6.heap.size) := ⟨S6.out.alloc _, S6.out.rs.lt⟩
        clear NB ST S6 b6 SB
        generalize fitsL m = fm at *
        cases fm
        · have er : R = 3 := by have := RE.out.1; simpa using this
          have eb : l = B := by have := RE.out.2; rw [er] at this; simpa using this.symm
          subst er eb
          go_wp2_with (first
            | (refine step_store rfl 31 _ _ rfl w6.heap.size 0 31 (bkL zeroL) (bkL bm) rfl rfl N6.out (by rw [bkL_len, BO.out.1]; exact Nat.le_refl _) (infoBl BO.out.1) (bkL_one _) ?_; intro w7 nb7 g7; have S7 : Hid (St w Q l w7) := S6'.out.1.grown g7 (by have := HQ.out; omega) S6'.out.2; clear nb7 g7 N6)
            | (refine step_load rfl 31 _ rfl Q 0 rfl (bkL l) _ S7.out.bk.all Tryz.underlying31 rfl (infoBl LL.out) ?_)
            | (refine step_store rfl 31 _ _ rfl (Q + 1) 0 31 (bkL zeroL) (bkL l) rfl rfl S7.out.rs (by rw [bkL_len, LL.out]; exact Nat.le_refl _) (infoBl LL.out) (bkL_one _) ?_; intro w9 nb9 g9))
          rw [store_all (by rw [bkL_len, LL.out]; rfl)] at nb9
          refine ret_blk_tmp rfl rfl (Q + 1) 31 (bkL l) _ rfl nb9 Tryz.underlying31 rfl (infoBl LL.out) ?_
          exact ⟨rfl, below_row S7.out.bb g9 (by have := HQ.out; omega)⟩
        · obtain rfl : bm = m := BE.out (by first | rfl | trivial)
          clear BE
          go_wp2_with (first
            | (refine step_store rfl 31 _ _ rfl w6.heap.size 0 31 (bkL zeroL) (bkL bm) rfl rfl N6.out (by rw [bkL_len, BO.out.1]; exact Nat.le_refl _) (infoBl BO.out.1) (bkL_one _) ?_; intro w7 nb7 g7; rw [store_all (by rw [bkL_len, BO.out.1]; rfl)] at nb7; have N7 : Hid (Blk w6.heap.size 31 (bkL bm) w7) := nb7; have S7 : Hid (St w Q l w7) := S6'.out.1.grown g7 (by have := HQ.out; omega) S6'.out.2; clear nb7 g7 N6)
            | (refine step_loadG rfl 31 _ rfl w6.heap.size 0 rfl (bkL bm) _ N7.out.all Tryz.underlying31 rfl (infoBl BO.out.1) ?_))
          refine (IR.out _).mono ?_
          rintro e w8 ⟨rfl, b8⟩
          have S8 : Hid (St w Q l w8) := S7.out.below b8
          have N8 : Hid (Blk w6.heap.size 31 (bkL bm) w8) := N7.out.below b8
          have hH : Q + 1 < w6.heap.size := S6'.out.2
          clear S7 N7 b8 IR S6'
          generalize rangeB bm = rm at *
          cases rm
          · have er : R = 3 := by have := RE.out.1; simpa using this
            have eb : l = B := by have := RE.out.2; rw [er] at this; simpa using this.symm
            subst er eb
            go_wp2_with (first
              | (refine step_load rfl 31 _ rfl Q 0 rfl (bkL l) _ S8.out.bk.all Tryz.underlying31 rfl (infoBl LL.out) ?_)
              | (refine step_store rfl 31 _ _ rfl (Q + 1) 0 31 (bkL zeroL) (bkL l) rfl rfl S8.out.rs (by rw [bkL_len, LL.out]; exact Nat.le_refl _) (infoBl LL.out) (bkL_one _) ?_; intro w9 nb9 g9))
            rw [store_all (by rw [bkL_len, LL.out]; rfl)] at nb9
            refine ret_blk_tmp rfl rfl (Q + 1) 31 (bkL l) _ rfl nb9 Tryz.underlying31 rfl (infoBl LL.out) ?_
            exact ⟨rfl, below_row S8.out.bb g9 (by have := HQ.out; omega)⟩
          · go_wp2_with (refine step_load rfl 31 _ rfl w6.heap.size 0 rfl (bkL bm) _ N8.out.all Tryz.underlying31 rfl (infoBl BO.out.1) ?_)
            refine (SI.out _ S8.out.bb).mono ?_
            rintro e w10 ⟨rfl, b10⟩
            have S10 : Hid (St w Q l w10) := S8.out.below b10
            have N10 : Hid (Blk w6.heap.size 31 (bkL bm) w10) := N8.out.below b10
            clear S8 N8 b10 SI
            generalize sidesB bm = sm at *
            cases sm
            · have er : R = 81 := by have := RE.out.1; simpa using this
              have eb : l = B := by have := RE.out.2; rw [er] at this; simpa using this.symm
              subst er eb
              go_wp2_with (first
                | (refine step_load rfl 31 _ rfl Q 0 rfl (bkL l) _ S10.out.bk.all Tryz.underlying31 rfl (infoBl LL.out) ?_)
                | (refine step_store rfl 31 _ _ rfl (Q + 1) 0 31 (bkL zeroL) (bkL l) rfl rfl S10.out.rs (by rw [bkL_len, LL.out]; exact Nat.le_refl _) (infoBl LL.out) (bkL_one _) ?_; intro w9 nb9 g9))
              rw [store_all (by rw [bkL_len, LL.out]; rfl)] at nb9
              refine ret_blk_tmp rfl rfl (Q + 1) 31 (bkL l) _ rfl nb9 Tryz.underlying31 rfl (infoBl LL.out) ?_
              exact ⟨rfl, below_row S10.out.bb g9 (by have := HQ.out; omega)⟩
            · have er : R = 0 := by have := RE.out.1; simpa using this
              have eb : bm = B := by have := RE.out.2; rw [er] at this; simpa using this.symm
              subst er eb
              go_wp2_with (first
                | (refine step_load rfl 31 _ rfl w6.heap.size 0 rfl (bkL bm) _ N10.out.all Tryz.underlying31 rfl (infoBl BO.out.1) ?_)
                | (refine step_store rfl 31 _ _ rfl (Q + 1) 0 31 (bkL zeroL) (bkL bm) rfl rfl S10.out.rs (by rw [bkL_len, BO.out.1]; exact Nat.le_refl _) (infoBl BO.out.1) (bkL_one _) ?_; intro w9 nb9 g9))
              rw [store_all (by rw [bkL_len, BO.out.1]; rfl)] at nb9
              refine ret_blk_tmp rfl rfl (Q + 1) 31 (bkL bm) _ rfl nb9 Tryz.underlying31 rfl (infoBl BO.out.1) ?_
              exact ⟨rfl, below_row S10.out.bb g9 (by have := HQ.out; omega)⟩
  · have er : R = F := by have := HR.out; unfold postE at this; rw [HF.out, if_neg hf] at this; exact this.symm
    have eb : l = B := by have := HB.out; unfold postB at this; rw [HR.out, er, if_neg hf] at this; exact this
    have ef : (F != 0) = true := bne_iff_ne.2 hf
    clear hf HR HB
    subst er eb
    go_wp2_with (first
      | (refine step_load rfl 31 _ rfl Q 0 rfl (bkL l) _ S3.out.bk.all Tryz.underlying31 rfl (infoBl LL.out) ?_)
      | (refine step_store rfl 31 _ _ rfl (Q + 1) 0 31 (bkL zeroL) (bkL l) rfl rfl S3.out.rs (by rw [bkL_len, LL.out]; exact Nat.le_refl _) (infoBl LL.out) (bkL_one _) ?_; intro w9 nb9 g9))
    rw [store_all (by rw [bkL_len, LL.out]; rfl)] at nb9
    refine ret_blk_tmp rfl rfl (Q + 1) 31 (bkL l) _ rfl nb9 Tryz.underlying31 rfl (infoBl LL.out) ?_
    exact ⟨rfl, below_row S3.out.bb g9 (by have := HQ.out; omega)⟩
end Go.Proofs.YtgdmkcbbomfmdaaGreatDoor
