/-
  Ours: slices.Grow of a row, and add.
-/
import Derived.Test.YtcmfehabcklbpaaDoorDskFile
import Derived.Lib.AppendStr
namespace Go.Proofs.YtcmfehabcklbpaaDoor
open Go.RowKit

theorem uI : Tryd.prog.underlying 3 = some (.int .i64) := by kernel_rfl

set_option maxRecDepth 20000 in
set_option maxHeartbeats 1000000 in
theorem grow_at (bs : List Nat) (a : Option Addr) (n c k : Nat) (w : World) (h : RowB 5 0 w (.slice a n c) bs) (hnk : n + k ≤ 16777216) :
    Calls Tryd.prog 54 #[.slice a n c, .int .i64 (k : Int)] w fun e w' => ∃ a' c', e = .returned (.slice a' n c') ∧ RowB 5 0 w' (.slice a' n c') bs ∧ n + k ≤ c' ∧ Below w.heap.size w w' ∧ (∀ g, (Value.slice a' n c').ownBlock = some g → (Value.slice a n c).ownBlock = some g ∨ w.heap.size ≤ g) := by
  obtain ⟨i0, hi, hz0, hz1, hz2⟩ := info_parts infoB
  have hcm : n ≤ c ∧ c ≤ maxLen := by
    rcases h.2 with ⟨e, _⟩ | ⟨g, cap, cur, e, _, _, h1, h2, _, _⟩
    · cases e; simp [maxLen]
    · injection e with e1 e2 e3; subst e3; omega
  have d0 : decide ((k : Int) < 0) = false := decide_eq_false (by omega)
  unfold maxLen at hcm
  have w1 : IntKind.i64.wrap ((c : Int) - (n : Int)) = (c : Int) - (n : Int) := by rw [IntKind.wrap_i64]; omega
  have w2 : IntKind.i64.wrap ((k : Int) - ((c : Int) - (n : Int))) = (k : Int) - ((c : Int) - (n : Int)) := by rw [IntKind.wrap_i64]; omega
  by_cases hr : n + k ≤ c
  · have d1 : decide ((0 : Int) < (k : Int) - ((c : Int) - (n : Int))) = false := decide_eq_false (by omega)
    have H : Hid (RowB 5 0 w (.slice a n c) bs) := h
    clear h
    go_enter Tryd.func54, Tryd.ntmps54
    go_wp2_with fail
    go_ret
    exact ⟨a, c, rfl, H.out, hr, Below.refl _ _, fun g hg => .inl hg⟩
  · obtain ⟨m, hm⟩ : ∃ m : Nat, (k : Int) - ((c : Int) - (n : Int)) = (m : Int) := ⟨n + k - c, by omega⟩
    have hm0 : 0 < m := by omega
    have hmk : c + m = n + k := by omega
    rw [hm] at w2
    have d1 : decide ((0 : Int) < (m : Int)) = true := decide_eq_true (by omega)
    -- the append
    obtain ⟨olds, ho1, ho2, hrun⟩ : ∃ olds : List Value, olds.length = c ∧ olds.take n = bs.map bv ∧ ∀ ty, (Builtin.append_ #[22, 3] ty #[.slice a c c, .int .i64 (m : Int)]).run Tryd.prog w = .ok (.slice (some ⟨w.heap.size, 0, none⟩) (n + k) (grownCap w (n + k) c 5)) (w.drew.alloc (.cells (olds.toArray ++ Builtin.zeroCells (Value.int .u8 0).cells m ++ Builtin.zeroCells (Value.int .u8 0).cells (grownCap w (n + k) c 5 - (n + k))) 5)) := by
      rcases h.2 with ⟨e, e0⟩ | ⟨g, cap, cur, e, _, hg, h1, h2, h3, h4⟩
      · cases e
        have hb0 : bs = [] := by rw [List.length_map] at e0; exact List.eq_nil_of_length_eq_zero e0
        subst hb0
        refine ⟨[], rfl, by simp, fun ty => ?_⟩
        have := Lib.run_append_nil_zeros (P := Tryd.prog) w 22 3 ty 5 i0 (.int .u8 0) .i64 .i64 underB uI hi hz0 m (by omega) (by omega) (by omega) (by rw [hz2]; omega)
        rw [show 0 + k = m by omega]
        simpa using this
      · injection e with e1 e2 e3
        subst e1 e2 e3
        have hold : (Builtin.firstCells i0.size c (.slice (some ⟨g, 0, none⟩) c c)).run Tryd.prog w.drew = .ok cur.toList.toArray w.drew :=
          run_firstCells_some (P := Tryd.prog) (w := w.drew) i0.size c ⟨g, 0, none⟩ c c cur.toList (by rw [hz1]; simpa using h3) (fun j u hj => by
            have hadd : (⟨g, 0, none⟩ : Addr).add j = ⟨g, 0 + j, none⟩ := by unfold Addr.add; split <;> simp_all
            rw [hadd]
            rw [Nat.zero_add]
            show w.cell? ⟨g, j, none⟩ = _
            simp [World.cell?, hg]
            simpa using hj)
        refine ⟨cur.toList, by simpa using h3, by simpa using h4, fun ty => ?_⟩
        have := Lib.run_append_grow_zeros (P := Tryd.prog) w 22 3 ty 5 i0 (.int .u8 0) .i64 .i64 underB uI hi hz0 (some ⟨g, 0, none⟩) c c cur.toList hold m hm0 (by omega) (by omega) (by omega) (by rw [hz2]; omega) (by rw [hz2]; exact growslice_fits (by omega) (by omega))
        rw [hmk] at this
        exact this
    obtain ⟨C, hC⟩ : ∃ C, grownCap w (n + k) c 5 = C := ⟨_, rfl⟩
    have c1 := grownCap_ge w (n + k) c 5
    have c2 := grownCap_le_maxLen w (n + k) c 5 (by unfold maxLen; omega)
    rw [hC] at c1 c2 hrun
    obtain ⟨zs, hzs⟩ : ∃ zs, olds.toArray ++ Builtin.zeroCells (Value.int .u8 0).cells m ++ Builtin.zeroCells (Value.int .u8 0).cells (C - (n + k)) = zs := ⟨_, rfl⟩
    have sz : zs.size = C := by
      rw [← hzs, Array.size_append, Array.size_append, size_zeroCells, size_zeroCells]; simp [Value.cells]; omega
    have tk : zs.toList.take n = bs.map bv := by
      rw [← hzs, Array.toList_append, Array.toList_append, List.append_assoc, List.take_append_of_le_length (by simp; omega)]
      exact ho2
    rw [hzs] at hrun
    have nl : (bs.map bv).length = n := by rw [← ho2, List.length_take]; omega
    have d2 : decide (0 < m) = true := decide_eq_true hm0
    have HR : Hid (∀ ty, (Builtin.append_ #[22, 3] ty #[.slice a c c, .int .i64 (m : Int)]).run Tryd.prog w = .ok (.slice (some ⟨w.heap.size, 0, none⟩) (n + k) C) (w.drew.alloc (.cells zs 5))) := hrun
    have BA := below_alloc w (.cells zs 5)
    have B1 : Hid (Below w.heap.size w (w.drew.alloc (.cells zs 5))) := ⟨BA.os, BA.tape, BA.output, BA.size, BA.block⟩
    have R1 : Hid (RowB 5 0 (w.drew.alloc (.cells zs 5)) (.slice (some ⟨w.heap.size, 0, none⟩) n C) bs) := ⟨by simp, .inr ⟨w.heap.size, C, zs, by rw [nl], Nat.zero_le _, (MapKept.heap_alloc w.drew _).1, by omega, c2, by omega, by rw [nl]; simpa using tk⟩⟩
    have C2 : Hid (n + k ≤ C) := c1
    have nC : n ≤ C := by omega
    have hnc := hcm.1
    clear hrun BA hC c1 c2 hzs sz tk ho1 ho2 nl h hr hmk hcm d1
    go_enter Tryd.func54, Tryd.ntmps54
    go_wp2_with (at_builtin; refine Lib.wpList_append_run _ rfl (.tmp 20) (.tmp 21) 22 3 rfl _ _ rfl rfl _ _ (HR.out _) ?_)
    go_ret
    exact ⟨_, C, rfl, R1.out, C2.out, B1.out, fun g hg => .inr (by simp [Value.ownBlock] at hg; omega)⟩

theorem setRow_kp (w : World) (g : Nat) (cs : Array Value) : Kp (fun x => x = g) w (w.setRow g cs) := ⟨rfl, rfl, rfl, by simp [World.setRow], fun k _ hk => setRow_other w g k cs (fun e => hk (by omega))⟩

set_option maxRecDepth 20000 in
set_option maxHeartbeats 1000000 in
theorem add_at (bs ds : List Nat) (R o n c m cd : Nat) (a ad : Option Addr) (ty : TypeId) (cs : List Value) (w : World) (hR : Blk R ty cs w) (ho : cs[o]? = some (.slice a n c)) (hr : RowB 5 0 w (.slice a n c) bs) (hv : ∀ g, (Value.slice a n c).ownBlock = some g → g ≠ R)
    (hd : RdB w (.slice ad m cd) ds) (hap : 0 < m → ∀ g, (Value.slice ad m cd).ownBlock = some g → g ≠ R ∧ (Value.slice a n c).ownBlock ≠ some g) (hnm : n + m ≤ 16777216) :
    Calls Tryd.prog 83 #[.pointer (some ⟨R, o, none⟩), .slice ad m cd] w fun e w' => e = .returned (.tuple #[]) ∧ ∃ a' c', Blk R ty (cs.set o (.slice a' (n + m) c')) w' ∧ RowB 5 0 w' (.slice a' (n + m) c') (bs ++ ds) ∧ (∀ g, (Value.slice a' (n + m) c').ownBlock = some g → (Value.slice a n c).ownBlock = some g ∨ w.heap.size ≤ g) ∧ Kp (fun g => g = R ∨ (Value.slice a n c).ownBlock = some g) w w' := by
  have nl : n = bs.length := by
    obtain ⟨_, _, e, _, _⟩ := hr.rd.len
    injection e with e1 e2; rw [e2, List.length_map]
  have ml : m = ds.length := by
    obtain ⟨_, _, e, _, _⟩ := hd.len
    injection e with e1 e2; rw [e2, List.length_map]
  have NL : Hid (n = bs.length) := nl
  have ML : Hid (m = ds.length) := ml
  have GR : Hid (Calls Tryd.prog 54 #[.slice a n c, .int .i64 (m : Int)] w fun e w' => ∃ a' c', e = .returned (.slice a' n c') ∧ RowB 5 0 w' (.slice a' n c') bs ∧ n + m ≤ c' ∧ Below w.heap.size w w' ∧ (∀ g, (Value.slice a' n c').ownBlock = some g → (Value.slice a n c).ownBlock = some g ∨ w.heap.size ≤ g)) := grow_at bs a n c m w hr hnm
  have c0 := hR.cell o _ ho
  obtain ⟨N, hN⟩ : ∃ N, n + m = N := ⟨_, rfl⟩
  have eNM : (n : Int) + (m : Int) = (N : Int) := by omega
  rw [hN] at GR ⊢
  have HN : Hid (n + m = N) := hN
  rw [hN] at hnm
  clear hN
  have HRl := hR.lt
  have hoL : o < cs.length := (List.getElem?_eq_some_iff.1 ho).1
  clear nl ml
  go_enter Tryd.func83, Tryd.ntmps83
  go_wp2_with fail
  refine GR.out.mono ?_
  rintro e w1 ⟨a1, c1, rfl, r1, hc1, b1, n1⟩
  have R1 := hR.below b1
  have d1 := Rd.later hd b1
  have k1 := Kp.of_below b1 (fun g => g = R ∨ (Value.slice a n c).ownBlock = some g)
  have N1 : Hid (∀ g, (Value.slice a1 n c1).ownBlock = some g → (Value.slice a n c).ownBlock = some g ∨ w.heap.size ≤ g) := n1
  have nR : Hid (∀ g, (Value.slice a1 n c1).ownBlock = some g → g ≠ R) := fun g hg e => by
    rcases n1 g hg with h | h
    · exact hv g h e
    · omega
  have cc1 := R1.cell o _ ho
  have ff1 := R1.fz o
  have g2 := setCell_grown w1 R o (.slice a1 N c1)
  have R2 := Blk.set (i := o) R1 (.slice a1 N c1)
  have r2 : RowB 5 0 (w1.setCell ⟨R, o, none⟩ (.slice a1 N c1)) (.slice a1 n c1) bs := RowV.kept r1 g2 (fun g hg e => by injection e with e; exact nR.out g hg e.symm)
  have k2 := k1.trans (Kp.of_grown g2) (fun g _ h => .inl (by injection h with h; exact h.symm))
  clear GR hR hd n1 g2 R1 r1 k1 c0
  go_upto_region 2 with fail
  have cell2 := R2.cell o (.slice a1 N c1) (by simp [hoL])
  by_cases m0 : m = 0
  · have SP : Hid (bs ++ ds = bs) := by
      show _ = _
      rw [List.eq_nil_of_length_eq_zero (l := ds) (by rw [← ML.out]; exact m0), List.append_nil]
    have e0 : Nat.min m (N - n) = 0 := by rw [m0]; simp
    obtain rfl : N = n := by have := HN.out; omega
    generalize w1.setCell ⟨R, o, none⟩ (.slice a1 N c1) = w2 at *
    subst m0
    go_wp2_with (refine wpList_copy_nothing rfl (.tmp 30) (.tmp 31) 22 22 rfl 5 underB sizeB _ _ _ _ _ _ rfl rfl (by simp) ?_)
    all_goals
      go_end0
      exact ⟨rfl, a1, c1, R2, by rw [SP.out]; exact r2, N1.out, k2⟩
  · have hNn : N - n = m := by have := HN.out; omega
    have nlN : (bs.map bv).length = n := by rw [List.length_map]; exact NL.out.symm
    have mlM : (ds.map bv).length = m := by rw [List.length_map]; exact ML.out.symm
    obtain ⟨g, cur, e1, hg, hcs, htk, hcm⟩ : ∃ g cur, a1 = some ⟨g, 0, none⟩ ∧ (w1.setCell ⟨R, o, none⟩ (.slice a1 N c1)).heap[g]? = some (.cells cur 5 (0, 0)) ∧ cur.size = c1 ∧ cur.toList.take n = bs.map bv ∧ c1 ≤ maxLen := by
      rcases r2.2 with ⟨e, _⟩ | ⟨g, cap, cur, e, _, hg, h1, h2, h3, h4⟩
      · injection e with e1 e2 e3; omega
      · injection e with e1 e2 e3
        subst e3
        rw [nlN] at h4
        exact ⟨g, cur, e1, hg, by omega, by simpa using h4, h2⟩
    subst e1
    have gR : g ≠ R := nR.out g rfl
    obtain ⟨ga, oa, rfl, ga1, ga2⟩ : ∃ ga oa, ad = some ⟨ga, oa, none⟩ ∧ ga ≠ R ∧ ∀ j u, (ds.map bv)[j]? = some u → (w1.setCell ⟨R, o, none⟩ (.slice (some ⟨g, 0, none⟩) N c1)).cell? ((⟨ga, oa, none⟩ : Addr).add j) = some u := by
      have d2 : RdB (w1.setCell ⟨R, o, none⟩ (.slice (some ⟨g, 0, none⟩) N c1)) (.slice ad m cd) ds := Rd.grown d1 (setCell_grown w1 R o _) (fun x hx e => by injection e with e; exact (hap (by omega) x hx).1 e.symm)
      obtain ⟨ao, cp, ee, _, _, H⟩ := d2
      injection ee with ee1 ee2 ee3
      subst ee1 ee3
      obtain ⟨ga, oa, rfl, _, _⟩ := H 0 (by omega)
      refine ⟨ga, oa, rfl, (hap (by omega) ga rfl).1, fun j u hj => ?_⟩
      obtain ⟨hj1, hj2⟩ := List.getElem?_eq_some_iff.1 hj
      obtain ⟨g', o', e2, _, e3⟩ := H j hj1
      cases e2
      rw [Addr.add_lit, e3, hj2]
    have hne : ¬ c1 = n := by have := HN.out; omega
    have hnc : n ≤ c1 := by have := HN.out; omega
    have hn1 : (ds.map bv).length = Nat.min m m := by rw [mlM]; simp
    have fit : n + (ds.map bv).length ≤ cur.size := by rw [mlM, hcs, HN.out]; exact hc1
    have one := one_bv ds
    have GA : Hid (∀ j u, (ds.map bv)[j]? = some u → (w1.setCell ⟨R, o, none⟩ (.slice (some ⟨g, 0, none⟩) N c1)).cell? ((⟨ga, oa, none⟩ : Addr).add j) = some u) := ga2
    have HG : Hid ((w1.setCell ⟨R, o, none⟩ (.slice (some ⟨g, 0, none⟩) N c1)).heap[g]? = some (.cells cur 5 (0, 0))) := hg
    have HT : Hid (cur.toList.take n = bs.map bv) := htk
    have HCS : Hid (cur.size = c1) := hcs
    have HC : Hid (c1 ≤ maxLen) := hcm
    clear ga2 hg d1 htk hcs hcm
    generalize w1.setCell ⟨R, o, none⟩ (.slice (some ⟨g, 0, none⟩) N c1) = w2 at *
    generalize hds : ds.map bv = dv at *
    have HD : Hid (ds.map bv = dv) := hds
    clear hds
    have MM : Hid (dv.length = m) := mlM
    have hNn' : N - n = m := hNn
    go_wp2_with (refine wpList_copy_own rfl (.tmp 30) (.tmp 31) 22 22 rfl 5 underB sizeB g n m (c1 - n) ⟨ga, oa, none⟩ m cd rfl rfl cur 5 HG.out dv hn1 GA.out fit one ?_)
    go_end0
    have kr := setRow_kp w2 g (cur.toList.take n ++ (dv ++ cur.toList.drop (n + m))).toArray
    refine ⟨rfl, some ⟨g, 0, none⟩, c1, R2.kp kr (fun e => gR e.symm), ?_, N1.out, k2.trans kr (fun x hx e => ?_)⟩
    · have hh := setRow_heap w2 g cur (cur.toList.take n ++ (dv ++ cur.toList.drop (n + m))).toArray 5 (0, 0) HG.out
      have hNl : ((bs ++ ds).map bv).length = N := by rw [List.map_append, List.length_append, nlN, HD.out, MM.out]; exact HN.out
      have hl3 : (cur.toList.take n).length = n := by rw [HT.out]; exact nlN
      refine ⟨by simp, .inr ⟨g, c1, _, by rw [hNl], Nat.zero_le _, hh, by rw [hNl]; exact hc1, HC.out, ?_, ?_⟩⟩
      · rw [List.size_toArray, List.length_append, List.length_append, List.length_drop, hl3, MM.out, Array.length_toList, HCS.out]
        have := HN.out; omega
      · rw [hNl, Nat.mul_one, ← List.append_assoc, List.take_append_of_le_length (by rw [List.length_append, hl3, MM.out]; have := HN.out; omega), List.take_of_length_le (by rw [List.length_append, hl3, MM.out]; have := HN.out; omega), HT.out, List.map_append, HD.out]
    · subst e
      rcases N1.out x rfl with h | h
      · exact .inr h
      · omega
end Go.Proofs.YtcmfehabcklbpaaDoor
