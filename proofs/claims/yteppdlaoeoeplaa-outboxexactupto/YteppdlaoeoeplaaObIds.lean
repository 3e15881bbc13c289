/-
  Ours: the numbers of the notices that are due.
-/
import Derived.Test.YteppdlaoeoeplaaObRow
import Derived.Maps.RangeRun
namespace Go.Proofs.Yteppdlaoeoeplaa
open Go.RowKit ObM LedM PolM
set_option linter.unusedSimpArgs false

namespace ObM
def prE (e : MapEntry) : Int × Value := (kI e.key, e.val)
def prN (x : En) : Int × Value := (x.id, enV x)
def nxV : Value → Int
  | .agg cs => kI (cs.getD 2 undef)
  | _ => 0
theorem nxV_en (x : En) : nxV (enV x) = x.nx := rfl
theorem due_perm {S L : List En} (now : Int) (h : (S.map prN).Perm (L.map prN)) : ((dueL S now).map (·.id)).Perm ((dueL L now).map (·.id)) := by
  have e : ∀ l : List En, (dueL l now).map (·.id) = ((l.map prN).filter (fun p => decide (nxV p.2 ≤ now))).map (·.1) := fun l => by
    rw [List.filter_map, List.map_map]
    rfl
  rw [e, e]
  exact (h.filter _).map _
theorem filt_more {l : List MapEntry} {e : MapEntry} {p : MapEntry → Bool} (hn : (l.map (·.born)).Nodup) (he : e ∈ l) (hp : p e = false) : (l.filter (fun y => p y || y.born == e.born)).Perm (l.filter p ++ [e]) := by
  induction l with
  | nil => cases he
  | cons y r ih =>
    obtain ⟨h1, h2⟩ := List.pairwise_cons.1 (show List.Pairwise _ _ from hn)
    rcases List.mem_cons.1 he with rfl | he'
    · have h3 : r.filter (fun y => p y || y.born == e.born) = r.filter p := by
        apply List.filter_congr
        intro z hz
        have : z.born ≠ e.born := fun q => h1 z.born (List.mem_map.2 ⟨z, hz, rfl⟩) q.symm
        simp [this]
      rw [List.filter_cons_of_pos (by simp), List.filter_cons_of_neg (by simp [hp]), h3]
      exact (List.perm_append_comm (l₁ := [e])).trans (.refl _)
    · have ne : y.born ≠ e.born := fun q => h1 e.born (List.mem_map.2 ⟨e, he', rfl⟩) q
      have ih' := ih h2 he'
      by_cases hy : p y = true
      · rw [List.filter_cons_of_pos (by simp [hy]), List.filter_cons_of_pos hy]
        exact ih'.cons y
      · rw [List.filter_cons_of_neg (by simp [hy, ne]), List.filter_cons_of_neg hy]
        exact ih'
/-- What the iterator has handed out. -/
def Seen (es : Array MapEntry) (seen : Array Nat) (S : List En) : Prop := ((es.toList.filter (fun y => seen.contains y.born)).map prE).Perm (S.map prN)
theorem Seen.start (es : Array MapEntry) : Seen es #[] [] := by
  unfold Seen
  rw [List.filter_eq_nil_iff.2 (by simp)]
  exact .refl _
theorem Seen.step {es : Array MapEntry} {seen : Array Nat} {S : List En} {e : MapEntry} {x : En} (h : Seen es seen S) (hn : (es.toList.map (·.born)).Nodup) (he : e ∈ (leftOf es seen).toList) (hx : prE e = prN x) : Seen es (seen.push e.born) (S ++ [x]) := by
  have hm : e ∈ es.toList ∧ seen.contains e.born = false := by
    unfold leftOf at he
    rw [Array.toList_filter, List.mem_filter] at he
    exact ⟨he.1, by simpa using he.2⟩
  unfold Seen at *
  have e1 : es.toList.filter (fun y => (seen.push e.born).contains y.born) = es.toList.filter (fun y => seen.contains y.born || y.born == e.born) := by
    apply List.filter_congr
    intro y _
    rw [Array.contains_push]
  rw [e1]
  refine ((filt_more (p := fun y => seen.contains y.born) hn hm.1 hm.2).map prE).trans ?_
  rw [List.map_append, List.map_append, List.map_cons, List.map_cons, hx]
  exact h.append_right _
theorem Seen.all {es : Array MapEntry} {seen : Array Nat} {S : List En} (h : Seen es seen S) (h0 : (leftOf es seen).size = 0) : (es.toList.map prE).Perm (S.map prN) := by
  have : es.toList.filter (fun y => seen.contains y.born) = es.toList := by
    apply List.filter_eq_self.2
    intro y hy
    have h1 : leftOf es seen = #[] := Array.eq_empty_of_size_eq_zero h0
    by_cases q : seen.contains y.born = true
    · exact q
    · exfalso
      have : y ∈ (leftOf es seen).toList := by
        unfold leftOf
        rw [Array.toList_filter, List.mem_filter]
        exact ⟨hy, by simpa using q⟩
      rw [h1] at this
      cases this
  unfold Seen at h
  rwa [this] at h
theorem left_push {es : Array MapEntry} {seen : Array Nat} {e : MapEntry} (he : e ∈ (leftOf es seen).toList) : (leftOf es (seen.push e.born)).size < (leftOf es seen).size := by
  unfold leftOf at *
  have h1 : (es.filter fun y => !(seen.push e.born).contains y.born) = (es.filter fun y => !seen.contains y.born).filter (fun y => !(y.born == e.born)) := by
    rw [Array.filter_filter]
    congr 1
    funext y
    rw [Array.contains_push, Bool.not_or, Bool.and_comm]
  rw [h1, ← Array.length_toList, ← Array.length_toList, Array.toList_filter]
  exact List.length_filter_lt_length_iff_exists.2 ⟨e, he, by simp⟩
end ObM
def leftN (Q bm : Nat) (w : World) : Nat := match w.heap[Q]?, w.heap[bm]? with
  | some (.mapIter _ _ seen _), some (.map es _) => (leftOf es seen).size
  | _, _ => 0
theorem leftN_is {Q bm : Nat} {w : World} {m : Option Nat} {s c k : Nat} {seen : Array Nat} {es : Array MapEntry} (h : w.heap[Q]? = some (.mapIter m s seen c)) (h' : w.heap[bm]? = some (.map es k)) : leftN Q bm w = (leftOf es seen).size := by
  unfold leftN
  rw [h, h']
/-- The iterator's state. -/
structure Itr (Q bm : Nat) (es : Array MapEntry) (clock : Nat) (now : Int) (w : World) (v : Value) (wr : World) (seen : Array Nat) (c0 : Nat) (S : List En) : Prop where
  it : wr.heap[Q]? = some (.mapIter (some bm) clock seen c0)
  mp : wr.heap[bm]? = some (.map es clock)
  le : clock ≤ c0
  row : RowV 3 (Q + 1) wr v (((dueL S now).map (·.id)).map iv)
  sn : Seen es seen S
  b : Below Q w wr
theorem due_snoc (S : List En) (x : En) (now : Int) : dueL (S ++ [x]) now = dueL S now ++ (if x.nx ≤ now then [x] else []) := by
  unfold dueL
  rw [List.filter_append]
  congr 1
  by_cases h : x.nx ≤ now
  · rw [if_pos h, List.filter_cons_of_pos (by simpa using h)]; rfl
  · rw [if_neg h, List.filter_cons_of_neg (by simpa using h)]; rfl
theorem ObM.Seen.len {es : Array MapEntry} {seen : Array Nat} {S : List En} (h : Seen es seen S) : S.length ≤ es.size := by
  have := h.length_eq
  simp only [List.length_map] at this
  rw [← this, ← Array.length_toList]
  exact List.length_filter_le ..

set_option maxRecDepth 40000 in
set_option maxHeartbeats 2000000 in
theorem dueIDs_at (R bm : Nat) (B : Nat → Prop) (l : List Int) (L : List En) (now : Int) (w : World) (h : BoxV R bm B l L w) (hl : L.length ≤ 1000000000) :
    Calls Try.prog 34 #[.pointer (some ⟨R, 0, none⟩), .int .i64 now] w fun e w' => ∃ a n c, e = .returned (.slice a n c) ∧ RowV 3 w.heap.size w' (.slice a n c) (((dueL L now).map (·.id)).map iv) ∧ Below w.heap.size w w' := by
  obtain ⟨i0, hi, hz0, hz1, hz2⟩ := info_parts infoInt
  obtain ⟨es, clock, hb, m⟩ := h.mp
  have hold : ∀ x ∈ es.toList, x.born < clock := ((MapKept.stamped_iff es clock).1 m.st).1
  have hnod : (es.toList.map (·.born)).Nodup := ((MapKept.stamped_iff es clock).1 m.st).2.1
  have RG := run_range_map (P := Try.prog) w 51 3 78 bm es clock underIE hb
  have cm := h.cm
  have bmlt := h.mp.lt
  have ltR := h.blk.lt
  obtain ⟨Q, hQ⟩ : ∃ Q, w.heap.size = Q := ⟨_, rfl⟩
  have HQ : Hid (w.heap.size = Q) := hQ
  have W0 : Hid (Itr Q bm es clock now w (.slice none 0 0) (w.alloc (.mapIter (some bm) clock #[] clock)) #[] clock []) := by
    rw [← hQ]
    exact ⟨heap_alloc_new w _, (heap_alloc_old w _ bmlt).trans hb, Nat.le_refl _, RowV.nil _ _ _, Seen.start es, below_alloc _ _⟩
  have MM : Hid (MapIs es clock L ∧ es.size ≤ 1000000000 ∧ (∀ x ∈ es.toList, x.born < clock) ∧ (es.toList.map (·.born)).Nodup ∧ bm < Q) := ⟨m, by rw [m.len]; exact hl, hold, hnod, by omega⟩
  have RI : Hid (Rise L) := h.rise
  clear h hb m hold hnod hl bmlt
  go_enter Try.func34, Try.ntmps34
  go_upto_region 3 with fail
  clear RG cm ltR hQ
  generalize w.alloc (.mapIter (some bm) clock #[] clock) = w0 at *
  go_loopw [5] (fun v wr => ∃ seen c0 S, Hid (Itr Q bm es clock now w v wr seen c0 S)) (fun _ wr => leftN Q bm wr)
  case atStart => exact ⟨#[], clock, [], W0⟩
  case round =>
    obtain ⟨seen, c0, S, I⟩ := hrel
    have VL : Hid (S.length ≤ 1000000000) := Nat.le_trans I.out.sn.len MM.out.2.1
    obtain ⟨va, vc, rfl, -, -⟩ := (RowV.rd I.out.row).len
    obtain ⟨N, hN⟩ : ∃ N, (((dueL S now).map (·.id)).map iv).length = N := ⟨_, rfl⟩
    have HN : Hid ((((dueL S now).map (·.id)).map iv).length = N) := hN
    have hN9 : N ≤ 1000000000 := by rw [← hN, List.length_map, List.length_map]; exact Nat.le_trans (List.length_filter_le ..) VL.out
    rw [hN] at I ⊢
    clear hN
    rcases run_next_at (P := Try.prog) wr 0 Q bm clock c0 seen es clock I.out.it I.out.mp MM.out.2.2.1 I.out.le with ⟨h0, hrun⟩ | ⟨e, he, w1, hal, hrun⟩
    · have PM : Hid (((dueL S now).map (·.id)).Perm ((dueL L now).map (·.id))) := due_perm now ((I.out.sn.all h0).symm.trans MM.out.1.pm)
      have SO : Hid (Calls Try.prog 45 #[.slice va N vc] wr fun e w' => e = .returned (.tuple #[]) ∧ RowV 3 (Q + 1) w' (.slice va N vc) ((((dueL S now).map (·.id)).mergeSort (fun x y => decide (x ≤ y))).map iv) ∧ wr.grownBy w' (Value.slice va N vc).ownBlock) := sort_at _ _ _ _ I.out.row (by rw [List.length_map]; exact Nat.le_trans (List.length_filter_le ..) (Nat.le_trans VL.out (by omega)))
      clear h0
      go_wp2_with fail
      refine SO.out.mono ?_
      rintro e w1 ⟨rfl, r1, g1⟩
      have FN : Hid (RowV 3 w.heap.size w1 (.slice va N vc) (((dueL L now).map (·.id)).map iv) ∧ Below w.heap.size w w1) := by
        rw [merge_is (due_rise RI.out) PM.out] at r1
        refine ⟨RowV.mono r1 (by have := HQ.out; omega), ?_⟩
        rw [HQ.out]
        exact I.out.b.grown g1 (by rw [← HQ.out]; exact (HQ.out ▸ I.out.b.size)) (fun k q => by have := RowV.block_ge I.out.row q; omega)
      clear r1 g1 SO PM
      go_wp2_with fail
      go_ret
      exact ⟨va, N, vc, rfl, FN.out.1, FN.out.2⟩
    · obtain ⟨w2, hw2⟩ : ∃ w2, ChangeMaps.setBlock w1 Q (.mapIter (some bm) clock (seen.push e.born) clock) = w2 := ⟨_, rfl⟩
      rw [hw2] at hrun
      have hQw : Q < wr.heap.size := (Array.getElem?_eq_some_iff.1 I.out.it).1
      have hm : e ∈ es.toList := by
        unfold leftOf at he
        rw [Array.toList_filter, List.mem_filter] at he
        exact he.1
      obtain ⟨x, hx, hk, hv⟩ := MM.out.1.has hm
      have hkey : e.key = .int .i64 x.id := by rw [MM.out.1.each e hm, hk]
      have G2 : Hid (wr.grownBy w2 (some Q)) := by
        have g := setBlock_grown w1 Q (.mapIter (some bm) clock (seen.push e.born) clock)
        rw [hw2] at g
        rcases hal with rfl | rfl
        · exact g
        · exact ⟨g.os, g.tape, g.output, g.size, g.block⟩
      have I2 : Hid (w2.heap[Q]? = some (.mapIter (some bm) clock (seen.push e.born) clock)) := by
        show _ = _
        rw [← hw2]
        refine setBlock_at _ ?_
        rcases hal with rfl | rfl
        · exact hQw
        · exact hQw
      have M2 : Hid (w2.heap[bm]? = some (.map es clock)) := (G2.out.block bm (by have := MM.out.2.2.2.2; omega) (fun q => by injection q with q; have := MM.out.2.2.2.2; omega)).trans I.out.mp
      have ENT := run_entry_at (P := Try.prog) w2 Q bm clock seen es clock e I2.out M2.out hm MM.out.2.2.2.1
      rw [hkey, hv] at ENT hrun
      have SN : Hid (Seen es (seen.push e.born) (S ++ [x])) := I.out.sn.step MM.out.2.2.2.1 he (by show (_, _) = (_, _); rw [hk, hv])
      have LF : Hid ((leftOf es (seen.push e.born)).size < (leftOf es seen).size) := left_push he
      have R2 : Hid (RowV 3 (Q + 1) w2 (.slice va N vc) (((dueL S now).map (·.id)).map iv)) := RowV.kept I.out.row G2.out (fun g hg q => by have := RowV.block_ge I.out.row hg; injection q with q; omega)
      have B2 : Hid (Below Q w w2) := I.out.b.grown G2.out (by omega) (fun k q => by injection q with q; omega)
      have L2 : Hid (wr.heap[Q]? = some (.mapIter (some bm) clock seen c0) ∧ wr.heap[bm]? = some (.map es clock)) := ⟨I.out.it, I.out.mp⟩
      have HQ2 : Hid (Q < w2.heap.size) := by have := G2.out.size; show _ < _; omega
      have DU : Hid (∀ w', Calls Try.prog 44 #[enV x, .int .i64 now] w' fun y w'' => y = .returned (.bool (decide (x.nx ≤ now))) ∧ Below w'.heap.size w' w'') := fun w' => edue_at x now w'
      have NZ : Hid (Blk w2.heap.size 78 (enL zEn) (w2.alloc (.cells #[.int .i64 0, .int .i64 0, .int .i64 0, .slice none 0 0] 78))) := Blk.new _ _ _
      clear hw2 hal hQw hm hx hk hv hkey he G2 I
      go_upto_region 5 with (first
        | ((with_reducible refine at_store ?_); refine step_store rfl 78 _ _ rfl w2.heap.size 0 78 (enL zEn) (enL x) rfl rfl NZ.out (show 0 + 4 ≤ 4 by decide) sizeEn (enL_one _) ?_; intro w3 nb3 g3))
      have W3 : Hid (Blk w2.heap.size 78 (enL x) w3 ∧ Below w2.heap.size w2 w3) := ⟨nb3, below_row (below_alloc _ _) g3 (Nat.le_refl _)⟩
      clear nb3 g3 NZ hrun ENT
      go_wp2_with (refine step_load rfl 78 _ rfl w2.heap.size 0 rfl (enL x) _ (Blk.all W3.out.1) Try.underlying78 rfl sizeEn ?_)
      refine (DU.out _).mono ?_
      rintro y w4 ⟨rfl, b4⟩
      have W4 : Hid (w4.heap[Q]? = some (.mapIter (some bm) clock (seen.push e.born) clock) ∧ w4.heap[bm]? = some (.map es clock) ∧ RowV 3 (Q + 1) w4 (.slice va N vc) (((dueL S now).map (·.id)).map iv) ∧ Below Q w w4 ∧ Q < w4.heap.size) := by
        have b := below_trans W3.out.2 b4
        refine ⟨(b.block Q HQ2.out).trans I2.out, (b.block bm (by have := MM.out.2.2.2.2; have := HQ2.out; omega)).trans M2.out, RowV.later R2.out b, B2.out.trans (b.mono (Nat.le_of_lt HQ2.out)), Nat.lt_of_lt_of_le HQ2.out b.size⟩
      have HQ4 : Q + 1 ≤ w4.heap.size := W4.out.2.2.2.2
      clear b4 W3 DU R2 B2 I2 M2 HQ2
      by_cases hd : x.nx ≤ now
      · have d1 : decide (x.nx ≤ now) = true := decide_eq_true hd
        have DS : Hid (((dueL (S ++ [x]) now).map (·.id)).map iv = (((dueL S now).map (·.id)).map iv) ++ [iv x.id]) := by show _ = _; rw [due_snoc, if_pos hd]; simp
        have l1 : N + 1 ≤ maxLen := by unfold maxLen; omega
        have l2 : (N + 1) * 8 ≤ 140737488355328 := by omega
        have OW : Hid (w4.ownsRow (Q + 1) 3 1 (.slice va N vc) N (((dueL S now).map (·.id)).map iv)) := by
          have := W4.out.2.2.1
          unfold RowV at this
          rwa [HN.out] at this
        clear hd
        go_wp2_with (at_builtin; refine wpList_pushR rfl (.tmp 21) (.tmp 23) 22 rfl 3 i0 (.int .i64 0) 1 8 Try.underlying22 hi hz0 hz1 hz2 rfl (by decide) (Q + 1) (.slice va N vc) N (((dueL S now).map (·.id)).map iv) [iv x.id] rfl (by intro u hu; simp at hu; subst hu; rfl) rfl OW.out HQ4 rfl l1 l2 ?_; intro a5 n5 c5 w5 r5 g5 x5)
        have I5 : Hid (Itr Q bm es clock now w (.slice a5 n5 c5) w5 (seen.push e.born) clock (S ++ [x])) := by
          have nq : ∀ k, k ≤ Q → some k ≠ (Value.slice va N vc).ownBlock := fun k hk q => by
            have := (own_heap OW.out q.symm).1
            omega
          refine ⟨(g5.block Q W4.out.2.2.2.2 (nq Q (Nat.le_refl _))).trans W4.out.1, (g5.block bm (by have := MM.out.2.2.2.2; omega) (nq bm (by have := MM.out.2.2.2.2; omega))).trans W4.out.2.1, Nat.le_refl _, ?_, SN.out, W4.out.2.2.2.1.grown g5 (by omega) (fun k q => by have := (own_heap OW.out q).1; omega)⟩
          unfold RowV
          rw [DS.out, List.length_append, HN.out]
          exact r5
        clear r5 g5 x5 OW
        go_roundw
        case rel => exact ⟨_, _, _, I5⟩
        case measure =>
          rw [leftN_is I5.out.it I5.out.mp, leftN_is L2.out.1 L2.out.2]
          exact LF.out
      · have d1 : decide (x.nx ≤ now) = false := decide_eq_false hd
        have DS : Hid (((dueL (S ++ [x]) now).map (·.id)).map iv = (((dueL S now).map (·.id)).map iv)) := by show _ = _; rw [due_snoc, if_neg hd]; simp
        clear hd
        go_wp2_with fail
        have I5 : Hid (Itr Q bm es clock now w (.slice va N vc) w4 (seen.push e.born) clock (S ++ [x])) := ⟨W4.out.1, W4.out.2.1, Nat.le_refl _, by rw [DS.out]; exact W4.out.2.2.1, SN.out, W4.out.2.2.2.1⟩
        go_roundw
        case rel => exact ⟨_, _, _, I5⟩
        case measure =>
          rw [leftN_is I5.out.it I5.out.mp, leftN_is L2.out.1 L2.out.2]
          exact LF.out
end Go.Proofs.Yteppdlaoeoeplaa
