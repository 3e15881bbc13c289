/-
  Ours: the sums added up, told as a book; the range; the sides.
-/
import Derived.Test.YtgdmkcbbomfmdaaGreatDoorLedWide
import Derived.Test.YtgdmkcbbomfmdaaGreatDoorLedBal
import Derived.Test.YtgdmkcbbomfmdaaGreatDoorLedNet
import Derived.Deep.Cut
import Derived.Deep.CutRange
namespace Go.Proofs.YtgdmkcbbomfmdaaGreatDoor
open Go.RowKit LedM

theorem infoS : (Tryz.prog.info? 128).map (·.size) = some 24 := by kernel_rfl
theorem run_index_agg {P : Program} (t e : TypeId) (n sz : Nat) (d : TypeDesc) (cs : Array Value) (k : Nat) (hu : P.underlying t = some (.array n e)) (hk : k < n) (he : P.underlying e = some d) (hd : d.isRow = true)
    (hi : (P.info? e).map (·.size) = some sz) (w : World) : (Instr.index t (.agg cs) (.int .i64 (k : Int))).run P w = .ok (.agg (cs.extract (k * sz) (k * sz + sz))) w := by
  have hagg : (isAgg e).run P w = .ok true w := by
    unfold isAgg
    rw [Sem.run_bind, run_underlying he w]
    cases d <;> simp_all [TypeDesc.isRow]
  cases hq : P.info? e with
  | none => simp [hq] at hi
  | some i =>
    have hs : i.size = sz := by simpa [hq] using hi
    simp [Instr.index, asIntOf, run_underlying hu, hk, part, sizeOf, typeInfo, hq, hs, hagg]
theorem smL_at' (ss : List Int) (k : Nat) (h : k < ss.length) : ((smL ss).drop (k * 2)).take 2 = wdL (ss.getD k 0) := by rw [Nat.mul_comm]; exact smL_at ss k h
theorem smL_set' (ss : List Int) (k : Nat) (s : Int) (h : k < ss.length) : (smL ss).take (k * 2) ++ wdL s ++ (smL ss).drop (k * 2 + 2) = smL (ss.set k s) := by rw [Nat.mul_comm]; exact smL_set ss k s h
theorem index_sum {ss : List Int} (k : Nat) (hl : ss.length = 12) (hk : k < 12) (w : World) : (Instr.index 128 (.agg (smL ss).toArray) (.int .i64 (k : Int))).run Tryz.prog w = .ok (.agg (wdL (ss.getD k 0)).toArray) w := by
  rw [run_index_agg 128 126 12 2 _ _ k Tryz.underlying128 hk Tryz.underlying126 rfl infoW w]
  congr 2
  rw [← smL_at' ss k (by omega)]
  simp [List.extract_toArray]
theorem infoWl (s : Int) : (Tryz.prog.info? 126).map (·.size) = some (wdL s).length := infoW
theorem oneWl (s : Int) : ∀ v ∈ wdL s, v.oneCell' = true := oneW _ _

namespace LedM
theorem ext12 {a b : List Int} (ha : a.length = 12) (hb : b.length = 12) (h : ∀ j, j < 12 → a.getD j 0 = b.getD j 0) : a = b := by
  apply List.ext_getElem (by omega)
  intro i h1 h2
  have := h i (by omega)
  simpa [List.getD_eq_getElem?_getD, List.getElem?_eq_getElem h1, List.getElem?_eq_getElem h2] using this
theorem getD_set {l : List Int} {k j : Nat} {x : Int} (hk : k < l.length) : (l.set k x).getD j 0 = if j = k then x else l.getD j 0 := by
  rw [List.getD_eq_getElem?_getD, List.getElem?_set]
  by_cases h : k = j
  · subst h; simp [hk]
  · rw [if_neg h, if_neg (fun e => h e.symm), List.getD_eq_getElem?_getD]
def addL (ss l : List Int) : List Int := (List.range 12).map fun j => ss.getD j 0 + l.getD j 0
theorem addL_len (ss l : List Int) : (addL ss l).length = 12 := by simp [addL]
theorem addL_at (ss l : List Int) (j : Nat) (hj : j < 12) : (addL ss l).getD j 0 = ss.getD j 0 + l.getD j 0 := by
  simp [addL, List.getD_eq_getElem?_getD, hj]
def zeroL : List Int := List.replicate 12 0
theorem zeroL_at (j : Nat) : zeroL.getD j 0 = 0 := by
  rw [List.getD_eq_getElem?_getD]
  unfold zeroL
  rw [List.getElem?_replicate]
  split <;> rfl
def fitsL (ss : List Int) : Bool := (List.range 12).all fun j => smOk (ss.getD j 0)
theorem fitsL_true {ss : List Int} (h : ∀ j, j < 12 → smOk (ss.getD j 0) = true) : fitsL ss = true := by unfold fitsL; rw [List.all_eq_true]; intro j hj; exact h j (by simpa using hj)
theorem fitsL_false {ss : List Int} (h : ¬ ∀ j, j < 12 → smOk (ss.getD j 0) = true) : fitsL ss = false := by
  cases e : fitsL ss
  · rfl
  · refine absurd (fun j hj => ?_) h
    unfold fitsL at e
    rw [List.all_eq_true] at e
    exact e j (by simpa using hj)
def bookL (ss : List Int) : List Int := if fitsL ss then ss else zeroL
end LedM

set_option maxRecDepth 20000 in
set_option maxHeartbeats 1000000 in
theorem sadd_at (ss l : List Int) (w : World) (hs : ss.length = 12) (hl : BkOk l) :
    Calls Tryz.prog 85 #[.agg (smL ss).toArray, .agg (bkL l).toArray] w fun e w' => e = .returned (.agg (smL (addL ss l)).toArray) ∧ Below w.heap.size w w' := by
  have G3 : Blk w.heap.size 128 (smL ss) (((w.alloc (.cells (smL ss).toArray 128)).alloc (.cells (bkL l).toArray 31)).alloc (.cells #[Value.int .u64 0, Value.int .u64 0, Value.int .u64 0, Value.int .u64 0, Value.int .u64 0, Value.int .u64 0, Value.int .u64 0, Value.int .u64 0, Value.int .u64 0, Value.int .u64 0, Value.int .u64 0, Value.int .u64 0, Value.int .u64 0, Value.int .u64 0, Value.int .u64 0, Value.int .u64 0, Value.int .u64 0, Value.int .u64 0, Value.int .u64 0, Value.int .u64 0, Value.int .u64 0, Value.int .u64 0, Value.int .u64 0, Value.int .u64 0] 128)) := ((Blk.new 128 (smL ss) w).old _).old _
  have E3 : Blk (w.heap.size + 1) 31 (bkL l) (((w.alloc (.cells (smL ss).toArray 128)).alloc (.cells (bkL l).toArray 31)).alloc (.cells #[Value.int .u64 0, Value.int .u64 0, Value.int .u64 0, Value.int .u64 0, Value.int .u64 0, Value.int .u64 0, Value.int .u64 0, Value.int .u64 0, Value.int .u64 0, Value.int .u64 0, Value.int .u64 0, Value.int .u64 0, Value.int .u64 0, Value.int .u64 0, Value.int .u64 0, Value.int .u64 0, Value.int .u64 0, Value.int .u64 0, Value.int .u64 0, Value.int .u64 0, Value.int .u64 0, Value.int .u64 0, Value.int .u64 0, Value.int .u64 0] 128)) := (Blk.new2 31 (bkL l) w _).old _
  have R3 : Blk (w.heap.size + 1 + 1) 128 #[Value.int .u64 0, Value.int .u64 0, Value.int .u64 0, Value.int .u64 0, Value.int .u64 0, Value.int .u64 0, Value.int .u64 0, Value.int .u64 0, Value.int .u64 0, Value.int .u64 0, Value.int .u64 0, Value.int .u64 0, Value.int .u64 0, Value.int .u64 0, Value.int .u64 0, Value.int .u64 0, Value.int .u64 0, Value.int .u64 0, Value.int .u64 0, Value.int .u64 0, Value.int .u64 0, Value.int .u64 0, Value.int .u64 0, Value.int .u64 0].toList (((w.alloc (.cells (smL ss).toArray 128)).alloc (.cells (bkL l).toArray 31)).alloc (.cells #[Value.int .u64 0, Value.int .u64 0, Value.int .u64 0, Value.int .u64 0, Value.int .u64 0, Value.int .u64 0, Value.int .u64 0, Value.int .u64 0, Value.int .u64 0, Value.int .u64 0, Value.int .u64 0, Value.int .u64 0, Value.int .u64 0, Value.int .u64 0, Value.int .u64 0, Value.int .u64 0, Value.int .u64 0, Value.int .u64 0, Value.int .u64 0, Value.int .u64 0, Value.int .u64 0, Value.int .u64 0, Value.int .u64 0, Value.int .u64 0] 128)) := Blk.new3 128 #[Value.int .u64 0, Value.int .u64 0, Value.int .u64 0, Value.int .u64 0, Value.int .u64 0, Value.int .u64 0, Value.int .u64 0, Value.int .u64 0, Value.int .u64 0, Value.int .u64 0, Value.int .u64 0, Value.int .u64 0, Value.int .u64 0, Value.int .u64 0, Value.int .u64 0, Value.int .u64 0, Value.int .u64 0, Value.int .u64 0, Value.int .u64 0, Value.int .u64 0, Value.int .u64 0, Value.int .u64 0, Value.int .u64 0, Value.int .u64 0].toList w _ _
  have W3 : Below w.heap.size w (((w.alloc (.cells (smL ss).toArray 128)).alloc (.cells (bkL l).toArray 31)).alloc (.cells #[Value.int .u64 0, Value.int .u64 0, Value.int .u64 0, Value.int .u64 0, Value.int .u64 0, Value.int .u64 0, Value.int .u64 0, Value.int .u64 0, Value.int .u64 0, Value.int .u64 0, Value.int .u64 0, Value.int .u64 0, Value.int .u64 0, Value.int .u64 0, Value.int .u64 0, Value.int .u64 0, Value.int .u64 0, Value.int .u64 0, Value.int .u64 0, Value.int .u64 0, Value.int .u64 0, Value.int .u64 0, Value.int .u64 0, Value.int .u64 0] 128)) := ((below_alloc w _).alloc (by simp) _).alloc (by simp; omega) _
  have hR : (#[Value.int .u64 0, Value.int .u64 0, Value.int .u64 0, Value.int .u64 0, Value.int .u64 0, Value.int .u64 0, Value.int .u64 0, Value.int .u64 0, Value.int .u64 0, Value.int .u64 0, Value.int .u64 0, Value.int .u64 0, Value.int .u64 0, Value.int .u64 0, Value.int .u64 0, Value.int .u64 0, Value.int .u64 0, Value.int .u64 0, Value.int .u64 0, Value.int .u64 0, Value.int .u64 0, Value.int .u64 0, Value.int .u64 0, Value.int .u64 0] : Array Value).toList.length = 24 := rfl
  have PL : Hid (∀ (s : Int) k (w : World), Calls Tryz.prog 114 #[.agg (wdL s).toArray, .int .i64 (l.getD k 0)] w fun e w' => e = .returned (.agg (wdL (s + l.getD k 0)).toArray) ∧ Below w.heap.size w w') := fun s k w => wplus_at s _ w (hl.2 k).1 (hl.2 k).2
  have IX : Hid (∀ (k : Nat), k < 12 → ∀ w : World, (Instr.index 29 (.agg (bkL l).toArray) (.int .i64 (k : Int))).run Tryz.prog w = .ok (.int .i64 (l.getD k 0)) w) := fun k hk w => index_net k hl.1 hk w
  have CI : Hid ((Tryz.prog.info? 29).map (·.size) = some (bkL l).length) := by show _ = _; rw [bkL_len, hl.1]; exact cellsNet
  have SL : Hid ((smL (addL ss l)).length = 24) := by show _ = _; rw [smL_len, addL_len]
  have HS : Hid (ss.length = 12) := hs
  clear hl hs
  obtain ⟨s2, HA⟩ : ∃ s2, Hid (addL ss l = s2) := ⟨_, rfl⟩
  rw [HA.out] at SL ⊢
  go_enter Tryz.func85, Tryz.ntmps85
  go_upto_region 1 with fail
  generalize ((w.alloc (.cells (smL ss).toArray 128)).alloc (.cells (bkL l).toArray 31)).alloc (.cells #[Value.int .u64 0, Value.int .u64 0, Value.int .u64 0, Value.int .u64 0, Value.int .u64 0, Value.int .u64 0, Value.int .u64 0, Value.int .u64 0, Value.int .u64 0, Value.int .u64 0, Value.int .u64 0, Value.int .u64 0, Value.int .u64 0, Value.int .u64 0, Value.int .u64 0, Value.int .u64 0, Value.int .u64 0, Value.int .u64 0, Value.int .u64 0, Value.int .u64 0, Value.int .u64 0, Value.int .u64 0, Value.int .u64 0, Value.int .u64 0] 128) = w3 at *
  obtain ⟨Q, hQ⟩ : ∃ Q, w.heap.size = Q := ⟨_, rfl⟩
  have HQ : Hid (w.heap.size = Q) := hQ
  rw [hQ] at G3 E3 R3 ⊢
  clear hQ
  generalize (#[Value.int .u64 0, Value.int .u64 0, Value.int .u64 0, Value.int .u64 0, Value.int .u64 0, Value.int .u64 0, Value.int .u64 0, Value.int .u64 0, Value.int .u64 0, Value.int .u64 0, Value.int .u64 0, Value.int .u64 0, Value.int .u64 0, Value.int .u64 0, Value.int .u64 0, Value.int .u64 0, Value.int .u64 0, Value.int .u64 0, Value.int .u64 0, Value.int .u64 0, Value.int .u64 0, Value.int .u64 0, Value.int .u64 0, Value.int .u64 0] : Array Value).toList = zr at *
  have ZR : Hid (zr.length = 24) := hR
  have GG : Hid (Blk Q 128 (smL ss) w3) := G3
  have EE : Hid (Blk (Q + 1) 31 (bkL l) w3) := E3
  have RR : Hid (Blk (Q + 1 + 1) 128 zr w3) := R3
  have WW : Hid (Below w.heap.size w w3) := W3
  clear G3 E3 R3 W3 hR
  go_wp2_with (refine step_load rfl 29 _ rfl (Q + 1) 0 rfl (bkL l) _ EE.out.all Tryz.underlying29 rfl CI.out ?_)
  go_loopw [5, 6, 9] (fun _ _ vk wr => ∃ (k : Nat) (cur : List Int), vk = .int .i64 (k : Int) ∧ k ≤ 12 ∧ Hid (cur.length = 12) ∧ Hid (∀ j, j < 12 → cur.getD j 0 = ss.getD j 0 + (if j < k then l.getD j 0 else 0)) ∧ Blk Q 128 (smL cur) wr ∧ Blk (Q + 1 + 1) 128 zr wr ∧ Below w.heap.size w wr) (fun _ _ vk _ => 12 - (intOf vk).toNat)
  case atStart => exact ⟨0, ss, rfl, by omega, HS.out, (fun j hj => by simp), GG.out, RR.out, WW.out⟩
  case round =>
    clear GG EE RR WW
    obtain ⟨k, cur, rfl, hk, LC, CU, gg, rr, ww⟩ := hrel
    have GG : Hid (Blk Q 128 (smL cur) wr) := gg
    have RR : Hid (Blk (Q + 1 + 1) 128 zr wr) := rr
    have WW : Hid (Below w.heap.size w wr) := ww
    clear gg rr ww
    by_cases hlt : (k : Int) < 12
    · have ix := IX.out k (by omega)
      have PK : Hid (∀ w : World, Calls Tryz.prog 114 #[.agg (wdL (cur.getD k 0)).toArray, .int .i64 (l.getD k 0)] w fun e w' => e = .returned (.agg (wdL (cur.getD k 0 + l.getD k 0)).toArray) ∧ Below w.heap.size w w') := PL.out _ k
      have RG : Hid (wr.rangeAt Q (k * 2) (wdL (cur.getD k 0))) := by
        have := GG.out.range (k * 2) 2
        rwa [smL_at' cur k (by have := LC.out; omega)] at this
      have ST : Hid ((smL cur).take (k * 2) ++ wdL (cur.getD k 0 + l.getD k 0) ++ (smL cur).drop (k * 2 + 2) = smL (cur.set k (cur.getD k 0 + l.getD k 0))) := smL_set' cur k _ (by have := LC.out; omega)
      have FT : Hid (k * 2 + 2 ≤ (smL cur).length) := by have := LC.out; show _ ≤ _; rw [smL_len]; omega
      have NX : Hid ((cur.set k (cur.getD k 0 + l.getD k 0)).length = 12 ∧ ∀ j, j < 12 → (cur.set k (cur.getD k 0 + l.getD k 0)).getD j 0 = ss.getD j 0 + (if j < k + 1 then l.getD j 0 else 0)) := by
        have lc := LC.out
        refine ⟨by rw [List.length_set]; exact lc, fun j hj => ?_⟩
        rw [getD_set (by omega)]
        have cj := CU.out j hj
        by_cases h : j = k
        · subst h
          rw [if_pos rfl, cj, if_neg (by omega), if_pos (by omega)]; omega
        · rw [if_neg h, cj]
          by_cases h2 : j < k
          · rw [if_pos h2, if_pos (by omega)]
          · rw [if_neg h2, if_neg (by omega)]
      generalize l.getD k 0 = x at *
      generalize cur.getD k 0 = y at *
      clear PL IX CU
      go_wp2_with (refine step_load rfl 126 _ rfl Q (k * 2) rfl (wdL y) _ RG.out Tryz.underlying126 rfl (infoWl _) ?_)
      refine (PK.out _).mono ?_
      rintro e w1 ⟨rfl, b1⟩
      have M1 : Hid (Blk Q 128 (smL cur) w1) := GG.out.below b1
      have M2 : Hid (Blk (Q + 1 + 1) 128 zr w1) := RR.out.below b1
      have M3 : Hid (Below w.heap.size w w1) := below_trans WW.out b1
      clear GG RR WW b1 PK
      go_wp2_with (refine step_store rfl 126 _ _ rfl Q (k * 2) 128 (smL cur) (wdL (y + x)) rfl rfl M1.out FT.out (infoWl _) (oneWl _) ?_; intro w2 nb2 g2)
      go_roundw
      case rel => exact ⟨k + 1, cur.set k (y + x), by go_num, by omega, NX.out.1, NX.out.2, by rw [← ST.out]; exact nb2, M2.out.grown g2 (by simp; omega), below_row M3.out g2 (by have := HQ.out; omega)⟩
      case measure => simp [intOf]; omega
    · obtain rfl : k = 12 := by omega
      have CE : Hid (cur = s2) := by show _ = _; rw [← HA.out]; exact ext12 LC.out (addL_len _ _) (fun j hj => by rw [CU.out j hj, addL_at _ _ j hj, if_pos hj])
      rw [CE.out] at GG
      clear PL IX CU LC CE CI HS
      go_wp2_with (first
        | (refine step_load rfl 128 _ rfl Q 0 rfl (smL s2) _ GG.out.all Tryz.underlying128 rfl (by rw [SL.out]; exact infoS) ?_)
        | (refine step_store rfl 128 _ _ rfl (Q + 1 + 1) 0 128 zr (smL s2) rfl rfl RR.out (by rw [SL.out, ZR.out]; exact Nat.le_refl _) (by rw [SL.out]; exact infoS) (smL_one _) ?_; intro w6 nb6 g6))
      have nb7 : Blk (Q + 1 + 1) 128 (smL s2) w6 := by
        rw [List.take_zero, List.nil_append, List.drop_eq_nil_of_le (by rw [SL.out, ZR.out]; exact Nat.le_refl _), List.append_nil] at nb6; exact nb6
      refine ret_blk rfl rfl (Q + 1 + 1) 128 (smL s2) _ rfl nb7 Tryz.underlying128 rfl (by rw [SL.out]; exact infoS) ?_
      exact ⟨rfl, below_row WW.out g6 (by have := HQ.out; omega)⟩

set_option maxRecDepth 20000 in
set_option maxHeartbeats 1000000 in
theorem sbook_at (ss : List Int) (w : World) (hs : ss.length = 12) (hw : ∀ j, j < 12 → Wd (ss.getD j 0)) :
    Calls Tryz.prog 87 #[.agg (smL ss).toArray] w fun e w' => e = .returned (.tuple #[.agg (bkL (bookL ss)).toArray, .bool (fitsL ss)]) ∧ Below w.heap.size w w' := by
  have G3 : Blk w.heap.size 128 (smL ss) (((w.alloc (.cells (smL ss).toArray 128)).alloc (.cells #[Value.int .i64 0, Value.int .i64 0, Value.int .i64 0, Value.int .i64 0, Value.int .i64 0, Value.int .i64 0, Value.int .i64 0, Value.int .i64 0, Value.int .i64 0, Value.int .i64 0, Value.int .i64 0, Value.int .i64 0] 31)).alloc (.cells #[Value.int .i64 0, Value.int .i64 0, Value.int .i64 0, Value.int .i64 0, Value.int .i64 0, Value.int .i64 0, Value.int .i64 0, Value.int .i64 0, Value.int .i64 0, Value.int .i64 0, Value.int .i64 0, Value.int .i64 0] 31)) := ((Blk.new 128 (smL ss) w).old _).old _
  have E3 : Blk (w.heap.size + 1) 31 (bkL zeroL) (((w.alloc (.cells (smL ss).toArray 128)).alloc (.cells #[Value.int .i64 0, Value.int .i64 0, Value.int .i64 0, Value.int .i64 0, Value.int .i64 0, Value.int .i64 0, Value.int .i64 0, Value.int .i64 0, Value.int .i64 0, Value.int .i64 0, Value.int .i64 0, Value.int .i64 0] 31)).alloc (.cells #[Value.int .i64 0, Value.int .i64 0, Value.int .i64 0, Value.int .i64 0, Value.int .i64 0, Value.int .i64 0, Value.int .i64 0, Value.int .i64 0, Value.int .i64 0, Value.int .i64 0, Value.int .i64 0, Value.int .i64 0] 31)) := (Blk.new2 31 (bkL zeroL) w _).old _
  have R3 : Blk (w.heap.size + 1 + 1) 31 (bkL zeroL) (((w.alloc (.cells (smL ss).toArray 128)).alloc (.cells #[Value.int .i64 0, Value.int .i64 0, Value.int .i64 0, Value.int .i64 0, Value.int .i64 0, Value.int .i64 0, Value.int .i64 0, Value.int .i64 0, Value.int .i64 0, Value.int .i64 0, Value.int .i64 0, Value.int .i64 0] 31)).alloc (.cells #[Value.int .i64 0, Value.int .i64 0, Value.int .i64 0, Value.int .i64 0, Value.int .i64 0, Value.int .i64 0, Value.int .i64 0, Value.int .i64 0, Value.int .i64 0, Value.int .i64 0, Value.int .i64 0, Value.int .i64 0] 31)) := Blk.new3 31 (bkL zeroL) w _ _
  have W3 : Below w.heap.size w (((w.alloc (.cells (smL ss).toArray 128)).alloc (.cells #[Value.int .i64 0, Value.int .i64 0, Value.int .i64 0, Value.int .i64 0, Value.int .i64 0, Value.int .i64 0, Value.int .i64 0, Value.int .i64 0, Value.int .i64 0, Value.int .i64 0, Value.int .i64 0, Value.int .i64 0] 31)).alloc (.cells #[Value.int .i64 0, Value.int .i64 0, Value.int .i64 0, Value.int .i64 0, Value.int .i64 0, Value.int .i64 0, Value.int .i64 0, Value.int .i64 0, Value.int .i64 0, Value.int .i64 0, Value.int .i64 0, Value.int .i64 0] 31)) := ((below_alloc w _).alloc (by simp) _).alloc (by simp; omega) _
  have NR : Hid (∀ k, k < 12 → ∀ w : World, Calls Tryz.prog 116 #[.agg (wdL (ss.getD k 0)).toArray] w fun e w' => e = .returned (.tuple #[.int .i64 (smV (ss.getD k 0)), .bool (smOk (ss.getD k 0))]) ∧ Below w.heap.size w w') := fun k hk w => narrow_at _ w (hw k hk)
  have IX : Hid (∀ (k : Nat), k < 12 → ∀ w : World, (Instr.index 128 (.agg (smL ss).toArray) (.int .i64 (k : Int))).run Tryz.prog w = .ok (.agg (wdL (ss.getD k 0)).toArray) w) := fun k hk w => index_sum k hs hk w
  have CI : Hid ((Tryz.prog.info? 128).map (·.size) = some (smL ss).length) := by show _ = _; rw [smL_len, hs]; exact infoS
  have HS : Hid (ss.length = 12) := hs
  clear hs hw
  obtain ⟨B, HB⟩ : ∃ B, Hid (bookL ss = B) := ⟨_, rfl⟩
  obtain ⟨K, HK⟩ : ∃ K, Hid (fitsL ss = K) := ⟨_, rfl⟩
  rw [HB.out, HK.out]
  go_enter Tryz.func87, Tryz.ntmps87
  go_upto_region 2 with fail
  generalize ((w.alloc (.cells (smL ss).toArray 128)).alloc (.cells #[Value.int .i64 0, Value.int .i64 0, Value.int .i64 0, Value.int .i64 0, Value.int .i64 0, Value.int .i64 0, Value.int .i64 0, Value.int .i64 0, Value.int .i64 0, Value.int .i64 0, Value.int .i64 0, Value.int .i64 0] 31)).alloc (.cells #[Value.int .i64 0, Value.int .i64 0, Value.int .i64 0, Value.int .i64 0, Value.int .i64 0, Value.int .i64 0, Value.int .i64 0, Value.int .i64 0, Value.int .i64 0, Value.int .i64 0, Value.int .i64 0, Value.int .i64 0] 31) = w3 at *
  obtain ⟨Q, hQ⟩ : ∃ Q, w.heap.size = Q := ⟨_, rfl⟩
  have HQ : Hid (w.heap.size = Q) := hQ
  rw [hQ] at G3 E3 R3 ⊢
  clear hQ
  have GG : Hid (Blk Q 128 (smL ss) w3) := G3
  have EE : Hid (Blk (Q + 1) 31 (bkL zeroL) w3) := E3
  have RR : Hid (Blk (Q + 1 + 1) 31 (bkL zeroL) w3) := R3
  have WW : Hid (Below w.heap.size w w3) := W3
  clear G3 E3 R3 W3
  go_wp2_with (refine step_load rfl 128 _ rfl Q 0 rfl (smL ss) _ GG.out.all Tryz.underlying128 rfl CI.out ?_)
  go_loopw [5, 6, 7, 8, 10] (fun _ _ _ _ vk wr => ∃ (k : Nat) (cur : List Int), vk = .int .i64 (k : Int) ∧ k ≤ 12 ∧ Hid (cur.length = 12) ∧ Hid (∀ j, j < 12 → cur.getD j 0 = if j < k then ss.getD j 0 else 0) ∧ Hid (∀ j, j < k → smOk (ss.getD j 0) = true) ∧ Blk (Q + 1 + 1) 31 (bkL cur) wr ∧ Blk (Q + 1) 31 (bkL zeroL) wr ∧ Below w.heap.size w wr) (fun _ _ _ _ vk _ => 12 - (intOf vk).toNat)
  case atStart => exact ⟨0, zeroL, rfl, by omega, rfl, (fun j hj => by rw [if_neg (by omega)]; exact zeroL_at j), (fun j hj => by omega), RR.out, EE.out, WW.out⟩
  case round =>
    clear GG EE RR WW
    obtain ⟨k, cur, rfl, hk, LC, CU, OK, rr, ee, ww⟩ := hrel
    by_cases hlt : (k : Int) < 12
    · have ix := IX.out k (by omega)
      have NK : Hid (∀ w : World, Calls Tryz.prog 116 #[.agg (wdL (ss.getD k 0)).toArray] w fun e w' => e = .returned (.tuple #[.int .i64 (smV (ss.getD k 0)), .bool (smOk (ss.getD k 0))]) ∧ Below w.heap.size w w') := NR.out k (by omega)
      have sz : Q + 1 + 1 < wr.heap.size := rr.lt
      have NB : Hid (Blk wr.heap.size 126 [.int .u64 0, .int .u64 0] (wr.alloc (.cells #[.int .u64 0, .int .u64 0] 126))) := Blk.new 126 [.int .u64 0, .int .u64 0] wr
      have RR : Hid (Blk (Q + 1 + 1) 31 (bkL cur) (wr.alloc (.cells #[.int .u64 0, .int .u64 0] 126))) := rr.old _
      have EE : Hid (Blk (Q + 1) 31 (bkL zeroL) (wr.alloc (.cells #[.int .u64 0, .int .u64 0] 126))) := ee.old _
      have WW : Hid (Below w.heap.size w (wr.alloc (.cells #[.int .u64 0, .int .u64 0] 126))) := ww.alloc ww.size _
      have FT : Hid (k + 1 ≤ (bkL cur).length) := by have := LC.out; show _ ≤ _; rw [bkL_len]; omega
      have VK : Hid (smOk (ss.getD k 0) = true → smV (ss.getD k 0) = ss.getD k 0) := fun h => by unfold smV; rw [h]; rfl
      have NX : Hid ((cur.set k (ss.getD k 0)).length = 12 ∧ (∀ j, j < 12 → (cur.set k (ss.getD k 0)).getD j 0 = if j < k + 1 then ss.getD j 0 else 0) ∧ (smOk (ss.getD k 0) = true → ∀ j, j < k + 1 → smOk (ss.getD j 0) = true)) := by
        have lc := LC.out
        refine ⟨by rw [List.length_set]; exact lc, fun j hj => ?_, fun h j hj => ?_⟩
        · rw [getD_set (by omega)]
          by_cases h : j = k
          · subst h
            rw [if_pos rfl, if_pos (by omega)]
          · rw [if_neg h, CU.out j hj]
            by_cases h2 : j < k
            · rw [if_pos h2, if_pos (by omega)]
            · rw [if_neg h2, if_neg (by omega)]
        · by_cases e : j = k
          · subst e; exact h
          · exact OK.out j (by omega)
      have ST : Hid ((bkL cur).take k ++ [Value.int .i64 (ss.getD k 0)] ++ (bkL cur).drop (k + 1) = bkL (cur.set k (ss.getD k 0))) := bkL_set k _ (by have := LC.out; omega)
      have KF : Hid (smOk (ss.getD k 0) = false → K = false ∧ bkL B = bkL zeroL) := fun h => by
        have f : fitsL ss = false := fitsL_false (fun hh => by have := hh k (by omega); rw [h] at this; cases this)
        refine ⟨HK.out.symm.trans f, ?_⟩
        rw [← HB.out]; unfold bookL; rw [f]; rfl
      generalize hok : smOk (ss.getD k 0) = ok at *
      clear hok
      generalize smV (ss.getD k 0) = sv at *
      generalize ss.getD k 0 = x at *
      clear NR IX CU OK rr ee ww HB HK
      go_wp2_with (first
        | (refine step_store rfl 126 _ _ rfl wr.heap.size 0 126 [.int .u64 0, .int .u64 0] (wdL x) rfl rfl NB.out (Nat.le_refl _) (infoWl _) (oneWl _) ?_; intro w2 nb2 g2; have N2 : Hid (Blk wr.heap.size 126 (wdL x) w2) := nb2; have g2' : Hid (_ ) := g2; clear nb2 g2)
        | (refine step_load rfl 126 _ rfl wr.heap.size 0 rfl (wdL x) _ N2.out.all Tryz.underlying126 rfl (infoWl _) ?_))
      refine (NK.out _).mono ?_
      rintro e w3 ⟨rfl, b3⟩
      have M1 : Hid (Blk (Q + 1 + 1) 31 (bkL cur) w3) := (RR.out.grown g2'.out (by simp; omega)).below b3
      have M2 : Hid (Blk (Q + 1) 31 (bkL zeroL) w3) := (EE.out.grown g2'.out (by simp; omega)).below b3
      have M3 : Hid (Below w.heap.size w w3) := below_trans (below_row WW.out g2'.out (by have := HQ.out; omega)) b3
      clear RR EE WW NB N2 g2' b3 NK
      cases ok
      · go_wp2_with (refine step_store rfl 31 _ _ rfl (Q + 1) 0 31 (bkL zeroL) (bkL zeroL) rfl rfl M2.out (Nat.le_refl _) cellsBk (bkL_one _) ?_; intro w6 nb6 g6)
        have nb7 : Blk (Q + 1) 31 (bkL zeroL) w6 := nb6
        obtain ⟨kf, bf⟩ := KF.out (by first | rfl | trivial)
        subst kf
        rw [bf]
        refine ret_blk_tmp rfl rfl (Q + 1) 31 (bkL zeroL) _ rfl nb7 Tryz.underlying31 rfl cellsBk ?_
        exact ⟨rfl, below_row M3.out g6 (by have := HQ.out; omega)⟩
      · obtain rfl : sv = x := VK.out (by first | rfl | trivial)
        have cb : w3.cell? ⟨Q + 1 + 1, k, none⟩ = some (.int .i64 (cur.getD k 0)) := M1.out.cell k _ (bkL_at (by have := LC.out; omega))
        have fb : w3.frozen? ⟨Q + 1 + 1, k, none⟩ = false := M1.out.fz k
        go_wp2_with fail
        go_roundw
        case rel =>
          have b9 := M1.out.set (i := k) (.int .i64 sv)
          have e9 : (bkL cur).set k (.int .i64 sv) = bkL (cur.set k sv) := by simp [bkL, List.map_set]
          rw [e9] at b9
          exact ⟨k + 1, cur.set k sv, by go_num, by omega, NX.out.1, NX.out.2.1, NX.out.2.2 (by first | rfl | trivial), b9, M2.out.grown (setCell_grown w3 (Q + 1 + 1) k _) (by simp), below_row M3.out (setCell_grown w3 (Q + 1 + 1) k _) (by have := HQ.out; omega)⟩
        case measure => simp [intOf]; omega
    · obtain rfl : k = 12 := by omega
      have CE : Hid (bkL cur = bkL B ∧ K = true) := by
        have f : fitsL ss = true := fitsL_true OK.out
        refine ⟨?_, HK.out.symm.trans f⟩
        rw [← HB.out]; unfold bookL; rw [f, if_pos rfl]
        congr 1
        exact ext12 LC.out HS.out (fun j hj => by rw [CU.out j hj, if_pos hj])
      obtain ⟨ce, hk1⟩ := CE.out
      subst hk1
      have BL : Hid ((bkL B).length = 12) := by show _ = _; rw [← ce, bkL_len]; exact LC.out
      rw [ce] at rr
      have RR : Hid (Blk (Q + 1 + 1) 31 (bkL B) wr) := rr
      have EE : Hid (Blk (Q + 1) 31 (bkL zeroL) wr) := ee
      have WW : Hid (Below w.heap.size w wr) := ww
      clear NR IX CU LC CE CI HS OK rr ee ww ce HB HK
      go_wp2_with (first
        | (refine step_load rfl 31 _ rfl (Q + 1 + 1) 0 rfl (bkL B) _ RR.out.all Tryz.underlying31 rfl (by rw [BL.out]; exact cellsBk) ?_)
        | (refine step_store rfl 31 _ _ rfl (Q + 1) 0 31 (bkL zeroL) (bkL B) rfl rfl EE.out (by rw [BL.out]; exact Nat.le_refl _) (by rw [BL.out]; exact cellsBk) (bkL_one B) ?_; intro w6 nb6 g6))
      have nb7 : Blk (Q + 1) 31 (bkL B) w6 := by
        rw [List.take_zero, List.nil_append, List.drop_eq_nil_of_le (by rw [BL.out]; exact Nat.le_refl _), List.append_nil] at nb6; exact nb6
      refine ret_blk_tmp rfl rfl (Q + 1) 31 (bkL B) _ rfl nb7 Tryz.underlying31 rfl (by rw [BL.out]; exact cellsBk) ?_
      exact ⟨rfl, below_row WW.out g6 (by have := HQ.out; omega)⟩
end Go.Proofs.YtgdmkcbbomfmdaaGreatDoor
