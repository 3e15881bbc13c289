/-
  Ours: the reference's Parse. By gen_scrpr.py from ScRpr.src: THE SEAT's OWN NUMBERS.
-/
import Derived.Test.YtkjnklagjhhhkaaGreatDoorScRpq
import Derived.Test.YtkjnklagjhhhkaaGreatDoorScWrd
import Derived.Deep.QuietTactic
import Derived.BigQuiet
import Derived.Deep.CutRange
import Derived.Deep.RegionHeld
namespace Go.Proofs.YtkjnklagjhhhkaaGreatDoor
open Go.RowKit Go.Lib ScF
set_option linter.unusedSimpArgs false

theorem op_putR {ops : Array Oper} {op : Oper} {a : Act} {wr : World} {K : Act → World → Prop} {Q : Exit → Act → World → Prop} {E : Prop} {T : TypeId} {zs : List Value} (vs : List Value) (hl : vs.length = zs.length) (hi : (Tryz.prog.info? T).map (·.size) = some vs.length) (h1 : ∀ v ∈ vs, v.oneCell' = true) (hgd : op.guard = Option.none) (x y : Operand) (ho : op.op = .store T x y)
    (G : Nat) (hx : a.eval x = .pointer (some ⟨G, 0, Option.none⟩)) (hy : a.eval y = .agg vs.toArray) (hb : Blk G T zs wr)
    (h : ∀ w', Blk G T vs w' → wr.grownBy w' (some G) → K (a.put op.dst undef) w') : if Region.wanted op (yielded ops a.tmps) = true then Oper.wp Tryz.prog op a wr K Q else E := by
  have hwd : Region.wanted op (yielded ops a.tmps) = true := by simp [Region.wanted, hgd]
  rw [if_pos hwd]
  unfold Oper.wp execOp
  simp only [ho, hx, hy, Instr.storeAt, Instr.sureAddr, Sem.run_bind, Sem.run_pure, Result.andThen_ok, run_storeVar_blk wr G 0 T T zs vs hb (by omega) hi h1]
  have nb := setRow_heap wr G _ (zs.take 0 ++ vs ++ zs.drop (0 + vs.length)).toArray T _ hb
  have g := setRow_grown wr G (zs.take 0 ++ vs ++ zs.drop (0 + vs.length)).toArray
  have e : zs.take 0 ++ vs ++ zs.drop (0 + vs.length) = vs := by rw [Nat.zero_add, hl, List.drop_length]; simp
  rw [e] at nb g ⊢
  exact h _ nb g
set_option maxRecDepth 40000 in
theorem slice_f (a : Option Addr) (q n c : Nat) (h2 : q ≤ n) (h3 : n ≤ c) (hn : a = none → c = 0) : (∀ W, (Instr.slice 22 (.slice a n c) none (some (.int .i64 (q : Int))) none).run Tryz.prog W = .ok (.slice a q c) W) ∧ ∀ W, (Instr.sliceAt 22 (.slice a n c) none (some (.int .i64 (q : Int))) none).run Tryz.prog W = .ok (.slice a q c) W := by
  cases a with
  | none =>
    obtain rfl := hn rfl
    obtain rfl : n = 0 := by omega
    obtain rfl : q = 0 := by omega
    refine ⟨fun W => ?_, fun W => ?_⟩
    · go_simp
    · go_simp
  | some ad =>
    refine ⟨fun W => ?_, fun W => ?_⟩
    · go_simp
      intro h
      omega
    · go_simp
      intro h
      omega
def KdI (f0 : List UInt8) (k kd : Nat) : Prop := (kd = 0 ∧ ∀ j, 1 ≤ j → j < k → wordN j ≠ f0) ∨ (1 ≤ kd ∧ kd < k ∧ wordN kd = f0)
theorem KdI.start (f0 : List UInt8) : KdI f0 1 0 := .inl ⟨rfl, fun j h1 h2 => by omega⟩
theorem KdI.yes {f0 : List UInt8} {k : Nat} (h : wordN k = f0) (hk : 1 ≤ k) : KdI f0 (k + 1) k := .inr ⟨hk, by omega, h⟩
theorem KdI.no {f0 : List UInt8} {k kd : Nat} (h : wordN k ≠ f0) (hk : KdI f0 k kd) : KdI f0 (k + 1) kd := by
  rcases hk with ⟨h1, h2⟩ | ⟨h1, h2, h3⟩
  · refine .inl ⟨h1, fun j j1 j2 => ?_⟩
    by_cases e : j = k
    · rw [e]; exact h
    · exact h2 j j1 (by omega)
  · exact .inr ⟨h1, by omega, h3⟩
theorem KdI.done {f0 : List UInt8} {kd : Nat} (h : KdI f0 22 kd) : (kd = 0 ∧ kindW f0 = none) ∨ (1 ≤ kd ∧ kd < 22 ∧ kindW f0 = some kd) := by
  rcases h with ⟨h1, h2⟩ | ⟨h1, h2, h3⟩
  · left
    refine ⟨h1, ?_⟩
    cases hk : kindW f0 with
    | none => rfl
    | some j => obtain ⟨j1, j2, e⟩ := kindW_some hk; exact absurd e (h2 j j1 j2)
  · right
    exact ⟨h1, h2, by rw [← h3]; exact kindW_word h1 h2⟩

theorem let_at2 {sl : List Nat} {i : Nat} (h : i < sl.length) (hs : ∀ s ∈ sl, s ≤ 6) : ((sl.map (fun s => UInt8.ofNat (letN s))).getD i 0).toNat = letN (sl.getD i 0) := by
  rw [List.getD_eq_getElem?_getD, List.getD_eq_getElem?_getD, List.getElem?_map, List.getElem?_eq_getElem h]
  have h6 := hs _ (List.getElem_mem h)
  simp only [Option.map_some, Option.getD_some]
  generalize sl[i] = s at *
  have : s = 0 ∨ s = 1 ∨ s = 2 ∨ s = 3 ∨ s = 4 ∨ s = 5 ∨ s = 6 := by omega
  rcases this with rfl | rfl | rfl | rfl | rfl | rfl | rfl <;> rfl
abbrev setW (G : Nat) (o : Cm) (w : World) : World := ((((((w.setCell ⟨G, 0, none⟩ (.int .i64 o.kind)).setCell ⟨G, 1, none⟩ (.int .i64 o.loan)).setCell ⟨G, 2, none⟩ (.int .i64 o.amount)).setCell ⟨G, 3, none⟩ (.int .i64 o.rate)).setCell ⟨G, 4, none⟩ (.int .i64 o.count)).setCell ⟨G, 5, none⟩ (.int .i64 o.days)).setCell ⟨G, 6, none⟩ (.string ⟨o.text.toArray⟩)
theorem setW_blk {G : Nat} {o p : Cm} {w : World} (h : Blk G 24 (opL p) w) : Blk G 24 (opL o) (setW G o w) := by
  have := ((((((h.set (i := 0) (.int .i64 o.kind)).set (i := 1) (.int .i64 o.loan)).set (i := 2) (.int .i64 o.amount)).set (i := 3) (.int .i64 o.rate)).set (i := 4) (.int .i64 o.count)).set (i := 5) (.int .i64 o.days)).set (i := 6) (.string ⟨o.text.toArray⟩)
  exact this
theorem setW_below {G : Nat} {o : Cm} {w w1 : World} (h : Below w.heap.size w w1) (hG : w.heap.size ≤ G) : Below w.heap.size w (setW G o w1) :=
  below_row (below_row (below_row (below_row (below_row (below_row (below_row h (setCell_grown _ _ _ _) hG) (setCell_grown _ _ _ _) hG) (setCell_grown _ _ _ _) hG) (setCell_grown _ _ _ _) hG) (setCell_grown _ _ _ _) hG) (setCell_grown _ _ _ _) hG) (setCell_grown _ _ _ _) hG
theorem put_out {r : Option Cm} {e : Ending} (h : PutAns r e) : ∃ (o : Cm) (b : Bool), e = .returned (.tuple #[opV o, .bool b]) ∧ (b = true → r = some o) ∧ (b = false → r = none) := by
  cases r with
  | none => obtain ⟨o, rfl⟩ := h; exact ⟨o, false, rfl, (fun h => by cases h), fun _ => rfl⟩
  | some o => exact ⟨o, true, h, fun _ => rfl, (fun h => by cases h)⟩
theorem spl_len : ∀ l : List UInt8, (spl l).length ≤ l.length + 1
  | [] => by simp [spl]
  | c :: r => by
    have ih := spl_len r
    by_cases h : c = 32
    · subst h; rw [sl_blank, List.length_cons]; omega
    · rw [sl_cons h, List.length_cons]; omega

set_option maxRecDepth 40000 in
set_option maxHeartbeats 8000000 in
theorem rparse_at (l : List UInt8) (a : Option Addr) (n c : Nat) (w : World) (hR : Rd w (.slice a n c) (byteCells l)) (hmax : l.length ≤ 140737488355328) (hT : TabW w) : Calls Tryz.prog 14 #[.slice a n c] w fun e w' => PaAns (readL l) e ∧ Below w.heap.size w w' := by
  obtain ⟨hnl, -⟩ := bytes_at hR
  obtain ⟨hnc, hnil⟩ := rd_cap hR
  have M2 : Hid (Blk w.heap.size 24 (opL cm0) ((w.alloc (.cells (opL cm0).toArray 24)).alloc (.cells (opL cm0).toArray 24))) := (Blk.new 24 (opL cm0) w).below (below_alloc _ _)
  have M5 : Hid (Blk (w.heap.size + 1) 24 (opL cm0) ((w.alloc (.cells (opL cm0).toArray 24)).alloc (.cells (opL cm0).toArray 24))) := Blk.new2 24 (opL cm0) w _
  have B0 : Hid (Below w.heap.size w ((w.alloc (.cells (opL cm0).toArray 24)).alloc (.cells (opL cm0).toArray 24))) := below_trans (below_alloc w _) (below_alloc _ _)
  by_cases hbig : (100 : Int) < (n : Int)
  · have E : Hid (readL l = .bad 1 0) := if_pos (by omega)
    rw [E.out]
    clear hR hT E
    go_enter Tryz.func14, Tryz.ntmps14
    go_upto_region 2 with fail
    generalize (w.alloc (.cells #[.int .i64 0, .int .i64 0, .int .i64 0, .int .i64 0, .int .i64 0, .int .i64 0, .string { data := #[] }] 24)).alloc (.cells #[.int .i64 0, .int .i64 0, .int .i64 0, .int .i64 0, .int .i64 0, .int .i64 0, .string { data := #[] }] 24) = W0 at *
    go_wp2_with (first
      | (refine step_load rfl 24 _ rfl (w.heap.size + 1) 0 rfl (opL cm0) _ M5.out.all Tryz.underlying24 rfl infoO0 ?_)
      | (refine step_store rfl 24 _ _ rfl w.heap.size 0 24 (opL cm0) (opL cm0) rfl rfl M2.out (Nat.le_refl _) infoO0 (opV_one cm0) ?_; intro w4 nb4 g4; have N4 : Hid (Blk w.heap.size 24 (opL cm0) w4) := nb4; have B4 : Hid (Below w.heap.size w w4) := below_row B0.out g4 (Nat.le_refl _); clear nb4 g4 M2 M5 B0))
    refine ret_blk_tmp2 rfl rfl w.heap.size 24 (opL cm0) _ rfl N4.out Tryz.underlying24 rfl infoO0 ?_
    exact ⟨rfl, B4.out⟩
  have hl100 : n ≤ 100 := by omega
  obtain ⟨f0, fs, hsp⟩ : ∃ f0 fs, spl l = f0 :: fs := by
    cases h : spl l with
    | nil => exact absurd h (spl_ne l)
    | cons f fs => exact ⟨f, fs, rfl⟩
  have hf0 := spl_head hsp
  have hF : f0.length ≤ n := by have := congrArg List.length hf0; simp at this; omega
  have HE1 : Hid (readL l = match kindW f0 with
    | none => .bad 180 0
    | some k => if fs.length ≠ (slotN k).length then .bad 181 n else readF (slotN k) fs (f0.length + 1) (cmK k)) := by
    show _ = _
    unfold readL
    rw [if_neg (by omega), hsp, ← hnl]
    rfl
  have EN : Hid (∀ w', Below w.heap.size w w' → Calls Tryz.prog 25 #[.slice a n c, .int .i64 0] w' fun e w'' => e = .returned (.int .i64 (f0.length : Int)) ∧ w'' = w') := fun w' hb => by
    have := rend_at l a n c 0 w' (Rd.later hR hb) hmax (by omega)
    rw [List.drop_zero, fe_of hsp, Nat.zero_add] at this
    exact this
  have CV : Hid (∀ w', Below w.heap.size w w' → (convert 22 9 (.slice a f0.length c)).run Tryz.prog w' = .ok (.string ⟨f0.toArray⟩) w') := fun w' hb => by
    have h := rd_slice (AD := a) (p := 0) (q := f0.length) (Rd.later hR hb) (by omega) hF ⟨fun h => by rw [hnil h], fun g o _ h => h⟩
    rw [Nat.sub_zero, Nat.sub_zero, List.drop_zero, hf0] at h
    exact (conv_rd h).2
  obtain ⟨sf1, sf2⟩ := slice_f a f0.length n c hF hnc hnil
  have WD : Hid (∀ (k : Nat) (w' : World), 1 ≤ k → k ≤ 21 → Calls Tryz.prog 26 #[.int .i64 (k : Int)] w' fun e w'' => e = .returned (.string ⟨(wordN k).toArray⟩) ∧ w'' = w') := fun k w' h1 h2 => by
    have := rword_at (k : Int) w'
    have e : wordI (k : Int) = wordN k := by unfold wordI; rw [if_pos (by omega)]; rfl
    rw [e] at this
    exact this
  generalize hFL : f0.length = F at *
  have K0 : Hid (KdI f0 1 0) := KdI.start f0
  have HR : Hid (Rd w (.slice a n c) (byteCells l)) := hR
  have HT : Hid (TabW w) := hT
  have HSP : Hid (spl l = f0 :: fs ∧ f0.length = F ∧ n = l.length ∧ l.length ≤ 140737488355328 ∧ (a = none → c = 0)) := ⟨hsp, hFL, hnl, hmax, hnil⟩
  obtain ⟨R, hRR⟩ : ∃ R, readL l = R := ⟨_, rfl⟩
  have RK0 : Hid (kindW f0 = none → R = .bad 180 0) := fun h => by rw [← hRR, HE1.out, h]
  have RK1 : Hid (∀ k, kindW f0 = some k → fs.length ≠ (slotN k).length → R = .bad 181 n) := fun k h h' => by rw [← hRR, HE1.out, h]; exact if_pos h'
  have RK2 : Hid (∀ k, kindW f0 = some k → fs.length = (slotN k).length → R = readF (slotN k) fs (F + 1) (cmK k)) := fun k h h' => by rw [← hRR, HE1.out, h]; exact if_neg (fun e => e h')
  rw [hRR]
  clear hR hT hsp hf0 hFL hnl hmax hnil HE1 hbig hRR
  go_enter Tryz.func14, Tryz.ntmps14
  go_upto_region 2 with fail
  generalize (w.alloc (.cells #[.int .i64 0, .int .i64 0, .int .i64 0, .int .i64 0, .int .i64 0, .int .i64 0, .string { data := #[] }] 24)).alloc (.cells #[.int .i64 0, .int .i64 0, .int .i64 0, .int .i64 0, .int .i64 0, .int .i64 0, .string { data := #[] }] 24) = W0 at *
  go_wp2_with fail
  refine (EN.out _ B0.out).mono ?_
  rintro e w1 ⟨rfl, hw⟩; rw [hw]; clear hw w1
  clear EN
  go_wp2_with fail
  go_loopw [7, 8] (fun v7 v8 wr => ∃ m k kd : Nat, wr = W0.drewN m ∧ v7 = .int .i64 (kd : Int) ∧ v8 = .int .i64 (k : Int) ∧ 1 ≤ k ∧ k ≤ 22 ∧ kd ≤ 21 ∧ Hid (KdI f0 k kd)) (fun _ v8 _ => 22 - (RowKit.intOf v8).toNat)
  case atStart => exact ⟨0, 1, 0, rfl, rfl, rfl, by omega, by omega, by omega, K0⟩
  case round =>
    obtain ⟨m, k, kd, rfl, rfl, rfl, k1, k22, hkd, HK⟩ := hrel
    have bm : Below w.heap.size w (W0.drewN m) := below_drewN B0.out m
    by_cases hlt : (k : Int) ≤ (21 : Int)
    · have WK : Hid (∀ w', Calls Tryz.prog 26 #[.int .i64 (k : Int)] w' fun e w'' => e = .returned (.string ⟨(wordN k).toArray⟩) ∧ w'' = w') := fun w' => WD.out k w' k1 (by omega)
      have cv : ∀ j, (convert 22 9 (.slice a F c)).run Tryz.prog ((W0.drewN m).drewN j) = .ok (.string ⟨f0.toArray⟩) ((W0.drewN m).drewN j) := fun j => CV.out _ (below_drewN bm j)
      have cv0 := CV.out _ bm
      have q := str_eql (wordN k) f0
      by_cases hw : wordN k = f0
      · rw [decide_eq_true hw] at q
        have KY : Hid (KdI f0 (k + 1) k) := KdI.yes hw k1
        clear HK hw
        generalize ({ data := (wordN k).toArray } : ByteArray) = WT at *
        generalize ({ data := f0.toArray } : ByteArray) = FT at *
        generalize hW1 : W0.drewN m = W1 at *
        have HW1 : Hid (W0.drewN m = W1) := hW1
        clear hW1
        go_wp2_with fail
        go_quiet ((go_at_call 26; exact Calls.quiet_of_same (WK.out _)))
        go_wp2_with fail
        go_roundw
        case rel => exact ⟨m + nq, k + 1, k, by rw [← HW1.out]; simp, rfl, by go_num, by omega, by omega, by omega, KY⟩
        case measure => simp [RowKit.intOf]; omega
      · rw [decide_eq_false hw] at q
        have KY : Hid (KdI f0 (k + 1) kd) := KdI.no hw HK.out
        clear HK hw
        generalize ({ data := (wordN k).toArray } : ByteArray) = WT at *
        generalize ({ data := f0.toArray } : ByteArray) = FT at *
        generalize hW1 : W0.drewN m = W1 at *
        have HW1 : Hid (W0.drewN m = W1) := hW1
        clear hW1
        go_wp2_with fail
        go_quiet ((go_at_call 26; exact Calls.quiet_of_same (WK.out _)))
        go_wp2_with fail
        go_roundw
        case rel => exact ⟨m + nq, k + 1, kd, by rw [← HW1.out]; simp, rfl, by go_num, by omega, by omega, by omega, KY⟩
        case measure => simp [RowKit.intOf]; omega
    · obtain rfl : k = 22 := by omega
      have M2' : Hid (Blk w.heap.size 24 (opL cm0) (W0.drewN m)) := M2.out.below (below_drewN (Below.refl _ _) m)
      have M5' : Hid (Blk (w.heap.size + 1) 24 (opL cm0) (W0.drewN m)) := M5.out.below (below_drewN (Below.refl _ _) m)
      have B1 : Hid (Below w.heap.size w (W0.drewN m)) := bm
      have hk := HK.out.done
      clear M2 M5 B0 bm CV WD K0 HK sf1 sf2 k1 k22
      generalize W0.drewN m = W1 at *
      rcases hk with ⟨rfl, hk⟩ | ⟨d1, d22, hk⟩
      · have RE := RK0.out hk
        subst RE
        clear RK0 RK1 RK2 hk HR HT HSP
        go_wp2_with (first
          | (refine step_load rfl 24 _ rfl (w.heap.size + 1) 0 rfl (opL cm0) _ M5'.out.all Tryz.underlying24 rfl infoO0 ?_)
          | (refine step_store rfl 24 _ _ rfl w.heap.size 0 24 (opL cm0) (opL cm0) rfl rfl M2'.out (Nat.le_refl _) infoO0 (opV_one cm0) ?_; intro w4 nb4 g4; have N4 : Hid (Blk w.heap.size 24 (opL cm0) w4) := nb4; have B4 : Hid (Below w.heap.size w w4) := below_row B1.out g4 (Nat.le_refl _); clear nb4 g4 M2' M5' B1))
        refine ret_blk_tmp2 rfl rfl w.heap.size 24 (opL cm0) _ rfl N4.out Tryz.underlying24 rfl infoO0 ?_
        exact ⟨rfl, B4.out⟩
      have RN : Hid (fs.length ≠ (slotN kd).length → R = .bad 181 n) := RK1.out kd hk
      have RY : Hid (fs.length = (slotN kd).length → R = readF (slotN kd) fs (F + 1) (cmK kd)) := RK2.out kd hk
      clear hk RK0 RK1 RK2
      have SH : Hid (∀ w', Calls Tryz.prog 27 #[.int .i64 (kd : Int)] w' fun e w'' => e = .returned (.string ⟨((slotN kd).map (fun s => UInt8.ofNat (letN s))).toArray⟩) ∧ w'' = w') := fun w' => by
        have := rshape_at (kd : Int) w'
        have e : shapeI (kd : Int) = (slotN kd).map (fun s => UInt8.ofNat (letN s)) := by unfold shapeI; rw [if_pos (by omega)]; rfl
        rw [e] at this
        exact this
      have BL : Hid (∀ w', Below w.heap.size w w' → Calls Tryz.prog 28 #[.slice a n c] w' fun e w'' => e = .returned (.int .i64 (fs.length : Int)) ∧ w'' = w') := fun w' hb => by
        have := rblanks_at l a n c w' (Rd.later HR.out hb) HSP.out.2.2.2.1
        rw [HSP.out.1] at this
        exact this
      have SL : Hid (∀ i, i < (slotN kd).length → (slotN kd).getD i 0 ≤ 6) := fun i hi => slot_le kd (by omega) _ (by rw [List.getD_eq_getElem?_getD, List.getElem?_eq_getElem hi]; exact List.getElem_mem hi)
      have LT : Hid (∀ i, i < (slotN kd).length → ∀ W, (Instr.index 9 (.string ⟨((slotN kd).map (fun s => UInt8.ofNat (letN s))).toArray⟩) (.int .i64 ((i : Nat) : Int))).run Tryz.prog W = .ok (.int .u8 ((letN ((slotN kd).getD i 0) : Nat) : Int)) W) := fun i hi W => by
        have := idx_str ((slotN kd).map (fun s => UInt8.ofNat (letN s))) i (by simpa using hi) W
        rwa [let_at2 hi (slot_le kd (by omega))] at this
      have SN : (slotN kd).length ≤ 5 := slot_len kd (by omega)
      have SZ : ({ data := ((slotN kd).map (fun s => UInt8.ofNat (letN s))).toArray } : ByteArray).size = (slotN kd).length := by rw [str_size, List.length_map]
      have FL : fs.length ≤ n := by have h1 := spl_len l; rw [HSP.out.1, ← HSP.out.2.2.1] at h1; simpa using h1
      have hdk : ((kd : Int) == 0) = false := beq_eq_false_iff_ne.2 (by omega)
      generalize hsn : slotN kd = sl at *
      clear hsn
      generalize ({ data := (sl.map (fun s => UInt8.ofNat (letN s))).toArray } : ByteArray) = shp at *
      obtain ⟨M, hM⟩ : ∃ M, sl.length = M := ⟨_, rfl⟩
      rw [hM] at SL LT SN SZ RN RY
      by_cases hne : fs.length ≠ M
      · have RE := RN.out hne
        subst RE
        have dn : ((fs.length : Int) != (M : Int)) = true := bne_iff_ne.2 (by omega)
        clear SL LT HR HT HSP hM hne RN RY
        generalize fs.length = Z at *
        go_wp2_with fail
        refine (SH.out _).mono ?_
        rintro e w2 ⟨rfl, hw⟩; rw [hw]; clear hw w2
        go_wp2_with fail
        refine (BL.out _ B1.out).mono ?_
        rintro e w2 ⟨rfl, hw⟩; rw [hw]; clear hw w2
        clear BL SH
        go_wp2_with (first
          | (refine step_load rfl 24 _ rfl (w.heap.size + 1) 0 rfl (opL cm0) _ M5'.out.all Tryz.underlying24 rfl infoO0 ?_)
          | (refine step_store rfl 24 _ _ rfl w.heap.size 0 24 (opL cm0) (opL cm0) rfl rfl M2'.out (Nat.le_refl _) infoO0 (opV_one cm0) ?_; intro w4 nb4 g4; have N4 : Hid (Blk w.heap.size 24 (opL cm0) w4) := nb4; have B4 : Hid (Below w.heap.size w w4) := below_row B1.out g4 (Nat.le_refl _); clear nb4 g4 M2' M5' B1))
        refine ret_blk_tmp2 rfl rfl w.heap.size 24 (opL cm0) _ rfl N4.out Tryz.underlying24 rfl infoO0 ?_
        exact ⟨rfl, B4.out⟩
      have hfm : fs.length = M := Classical.byContradiction hne
      have R0 : Hid (R = readF sl fs (F + 1) (cmK kd)) := RY.out hfm
      clear RN RY
      have dn : ((M : Int) != (M : Int)) = false := by simp
      have HM : Hid (sl.length = M ∧ fs.length = M) := ⟨hM, hfm⟩
      rw [hfm] at BL FL
      clear hne hM hfm
      go_wp2_with fail
      refine (SH.out _).mono ?_
      rintro e w2 ⟨rfl, hw⟩; rw [hw]; clear hw w2
      go_wp2_with fail
      refine (BL.out _ B1.out).mono ?_
      rintro e w2 ⟨rfl, hw⟩; rw [hw]; clear hw w2
      clear BL SH
      go_wp2_with fail
      have M10 := Blk.new 24 (opL (cmK kd)) W1
      have ba := below_alloc W1 (.cells (opL (cmK kd)).toArray 24)
      have MB : Hid (Blk w.heap.size 24 (opL cm0) (W1.alloc (.cells (opL (cmK kd)).toArray 24)) ∧ Blk (w.heap.size + 1) 24 (opL cm0) (W1.alloc (.cells (opL (cmK kd)).toArray 24)) ∧ Blk W1.heap.size 24 (opL (cmK kd)) (W1.alloc (.cells (opL (cmK kd)).toArray 24))) := ⟨M2'.out.below ba, M5'.out.below ba, M10⟩
      have B2 : Hid (Below w.heap.size w (W1.alloc (.cells (opL (cmK kd)).toArray 24))) := below_trans B1.out ba
      have ltG : w.heap.size + 1 < W1.heap.size := M5'.out.lt
      have I0 : Hid (readF (sl.drop 0) (fs.drop 0) (F + 1 + plc fs 0) (cmK kd) = R) := R0.out.symm
      have PL : Hid (∀ i, i < M → F + 1 + plc fs i ≤ n ∧ fe (l.drop (F + 1 + plc fs i)) = (fs.getD i []).length ∧ F + 1 + plc fs i + (fs.getD i []).length ≤ n ∧ (l.drop (F + 1 + plc fs i)).take (fs.getD i []).length = fs.getD i []) := fun i hi => by
        obtain ⟨h1, h2, h3, h4, h5⟩ := HSP.out
        have := placed h1 i (by rw [HM.out.2]; exact hi)
        rw [h2, ← h3] at this
        exact this
      clear M10 ba M2' M5' B1 R0 dn
      change Code.wp _ _ _ _ (W1.alloc (.cells (opL (cmK kd)).toArray 24))
      generalize W1.alloc (.cells (opL (cmK kd)).toArray 24) = W2 at *
      generalize W1.heap.size = G at *
      go_loopw [6, 11, 12, 13, 14] (fun v6 v11 _ _ _ wr => ∃ (i E : Nat) (o : Cm), v6 = .int .i64 (E : Int) ∧ v11 = .int .i64 (i : Int) ∧ i ≤ M ∧ E ≤ n ∧ Hid (E = F + plc fs i) ∧ Hid (readF (sl.drop i) (fs.drop i) (F + 1 + plc fs i) o = R) ∧ Hid (Blk w.heap.size 24 (opL cm0) wr ∧ Blk (w.heap.size + 1) 24 (opL cm0) wr ∧ Blk G 24 (opL o) wr) ∧ Below w.heap.size w wr) (fun _ v11 _ _ _ _ => M - (RowKit.intOf v11).toNat)
      case atStart => exact ⟨0, F, cmK kd, rfl, rfl, by omega, by omega, by show _ = _; simp [plc], I0, MB, B2.out⟩
      case round =>
        clear I0 MB B2
        obtain ⟨i, E, o, rfl, rfl, hi, hE, EI, HI, HB, B⟩ := hrel
        by_cases hlt : (i : Int) < (M : Int)
        · obtain ⟨p1, p2, p3, p4⟩ := PL.out i (by omega)
          have e1 : F + 1 + plc fs i = E + 1 := by have := EI.out; omega
          rw [e1] at p1 p2 p3 p4
          obtain ⟨h1, h2, h3, h4, h5⟩ := HSP.out
          have EN : Hid (Calls Tryz.prog 25 #[.slice a n c, .int .i64 ((E : Int) + 1)] wr fun e w'' => e = .returned (.int .i64 ((E + 1 + (fs.getD i []).length : Nat) : Int)) ∧ w'' = wr) := by
            have := rend_at l a n c (E + 1) wr (Rd.later HR.out B) h4 (by omega)
            rw [p2] at this
            exact this
          obtain ⟨AD, hAD, sl1, sl2⟩ := slice_b a (E + 1) (E + 1 + (fs.getD i []).length) n c (by omega) p3 hnc h5
          have ed : E + 1 + (fs.getD i []).length - (E + 1) = (fs.getD i []).length := by omega
          have CV : Hid (∀ w', Below w.heap.size w w' → (convert 22 9 (.slice AD (fs.getD i []).length (c - (E + 1)))).run Tryz.prog w' = .ok (.string ⟨(fs.getD i []).toArray⟩) w') := fun w' hb => by
            have h := rd_slice (Rd.later HR.out hb) (by omega) p3 hAD
            rw [ed, p4] at h
            exact (conv_rd h).2
          rw [ed] at sl1 sl2
          have ec : ((E + 1 : Nat) : Int) = (E : Int) + 1 := rfl
          rw [ec] at sl1 sl2
          have PT : Hid (∀ w', Below w.heap.size w w' → Calls Tryz.prog 29 #[opV o, .int .u8 ((letN (sl.getD i 0) : Nat) : Int), .string ⟨(fs.getD i []).toArray⟩] w' fun e w'' => (∃ (o' : Cm) (b : Bool), e = .returned (.tuple #[opV o', .bool b]) ∧ (b = true → layS o (sl.getD i 0) (fs.getD i []) = some o') ∧ (b = false → layS o (sl.getD i 0) (fs.getD i []) = none)) ∧ Below w'.heap.size w' w'') := fun w' hb => (rput_at o _ (SL.out i (by omega)) _ (by omega) w' (tab_below HT.out hb)).mono fun e w'' h => ⟨put_out h.1, h.2⟩
          have ix := LT.out i (by omega)
          obtain ⟨rs1, rs2⟩ := readF_step (by rw [HM.out.1, HM.out.2]) (by rw [HM.out.1]; omega) HI.out
          rw [e1] at rs1 rs2
          have RS1 : Hid (∀ o', layS o (sl.getD i 0) (fs.getD i []) = some o' → readF (sl.drop (i + 1)) (fs.drop (i + 1)) (F + 1 + plc fs (i + 1)) o' = R) := fun o' h => by
            have := rs1 o' h
            rw [plc]
            rw [show F + 1 + (plc fs i + (fs.getD i []).length + 1) = E + 1 + (fs.getD i []).length + 1 by omega]
            exact this
          have RS2 : Hid (layS o (sl.getD i 0) (fs.getD i []) = none → R = .bad 182 (E + 1)) := rs2
          have EI' : Hid (E + 1 + (fs.getD i []).length = F + plc fs (i + 1)) := by show _ = _; rw [plc]; omega
          obtain ⟨c0, c1, c2, c3, c4, c5, c6⟩ : wr.cell? ⟨G, 0, none⟩ = some (.int .i64 o.kind) ∧ wr.cell? ⟨G, 1, none⟩ = some (.int .i64 o.loan) ∧ wr.cell? ⟨G, 2, none⟩ = some (.int .i64 o.amount) ∧ wr.cell? ⟨G, 3, none⟩ = some (.int .i64 o.rate) ∧ wr.cell? ⟨G, 4, none⟩ = some (.int .i64 o.count) ∧ wr.cell? ⟨G, 5, none⟩ = some (.int .i64 o.days) ∧ wr.cell? ⟨G, 6, none⟩ = some (.string ⟨o.text.toArray⟩) := by
            have h := HB.out.2.2
            exact ⟨h.cell 0 _ rfl, h.cell 1 _ rfl, h.cell 2 _ rfl, h.cell 3 _ rfl, h.cell 4 _ rfl, h.cell 5 _ rfl, h.cell 6 _ rfl⟩
          have BW : Hid (Below w.heap.size w wr) := B
          have gl : G < wr.heap.size := HB.out.2.2.lt
          have hQ : E + 1 + (fs.getD i []).length ≤ 100 := by omega
          clear h1 h2 h3 h4 h5 p1 p2 p4 e1 rs1 rs2 hAD ed ec HI EI PL B SL LT HR HT HSP
          obtain ⟨kk, ln, am, rt, cn, dy, tx⟩ := o
          simp only at c0 c1 c2 c3 c4 c5 c6
          generalize hfl : (fs.getD i []).length = fl at *
          generalize hft : ({ data := (fs.getD i []).toArray } : ByteArray) = FT at *
          clear hft hfl
          generalize hQQ : E + 1 + fl = Q at *
          go_wp2_with fail
          refine EN.out.mono ?_
          rintro e w3 ⟨rfl, hw⟩; rw [hw]; clear hw w3
          clear EN
          go_upto_region 22 with fail
          go_cut [13, 14] from 48 to 76 (fun v13 v14 wx => ∃ (D : Nat) (o' : Cm) (tf : Bool), v13 = .pointer (some ⟨D, 0, none⟩) ∧ v14 = .bool tf ∧ Hid ((tf = true → layS ⟨kk, ln, am, rt, cn, dy, tx⟩ (sl.getD i 0) (fs.getD i []) = some o') ∧ (tf = false → layS ⟨kk, ln, am, rt, cn, dy, tx⟩ (sl.getD i 0) (fs.getD i []) = none) ∧ wr.heap.size ≤ D ∧ Blk D 24 (opL o') wx ∧ Below wr.heap.size wr wx))
          case first =>
            refine wp_region_held_drew (S := fun x => Blk G 24 (opL ⟨kk, ln, am, rt, cn, dy, tx⟩) x ∧ Below w.heap.size w x) (by kernel_rfl) (⟨HB.out.2.2, Below.drew BW.out⟩) (fun hH => ?_)
            refine wpAnyH_take (i := 0) (oi := { dst := some 60, op := Op.load 24 (Operand.tmp 10), type := 24, pos := "arrearsref18.go:216", after := #[], guard := none }) (v := .agg (opL ⟨kk, ln, am, rt, cn, dy, tx⟩ : List Value).toArray) rfl (by kernel_rfl) (by kernel_rfl) (by kernel_rfl) (fun _ _ _ h => h) (yieldsIf_load_mid (by rfl) _ _ rfl _ 0 rfl (opL ⟨kk, ln, am, rt, cn, dy, tx⟩) _ (fun w' h => h.1.all) Tryz.underlying24 rfl (infoO _)) hH ?_
            try simp only [Act.put, List.setIfInBounds_toArray, List.set_cons_zero, List.set_cons_succ]
            refine wpAnyH_take (i := 1) (oi := { dst := some 61, op := Op.move (Operand.tmp 9), type := 9, pos := "arrearsref18.go:216", after := #[], guard := none }) (v := .string shp) rfl (by kernel_rfl) (by kernel_rfl) (by kernel_rfl) (fun _ _ _ h => h) (Or.inl ⟨by rfl, fun w' hs => by go_simp⟩) hH ?_
            try simp only [Act.put, List.setIfInBounds_toArray, List.set_cons_zero, List.set_cons_succ]
            refine wpAnyH_take (i := 2) (oi := { dst := some 62, op := Op.move (Operand.tmp 11), type := 3, pos := "arrearsref18.go:216", after := #[], guard := none }) (v := .int .i64 (i : Int)) rfl (by kernel_rfl) (by kernel_rfl) (by kernel_rfl) (fun _ _ _ h => h) (Or.inl ⟨by rfl, fun w' hs => by go_simp⟩) hH ?_
            try simp only [Act.put, List.setIfInBounds_toArray, List.set_cons_zero, List.set_cons_succ]
            refine wpAnyH_take (i := 3) (oi := { dst := some 63, op := Op.index 9 (Operand.tmp 61) (Operand.tmp 62), type := 5, pos := "arrearsref18.go:216", after := #[{ on := 1, ground := Ground.data }, { on := 2, ground := Ground.data }], guard := none }) (v := .int .u8 ((letN (sl.getD i 0) : Nat) : Int)) rfl (by kernel_rfl) (by kernel_rfl) (by kernel_rfl) (fun _ _ _ h => h) (Or.inl ⟨by rfl, fun w' hs => by go_simp⟩) hH ?_
            try simp only [Act.put, List.setIfInBounds_toArray, List.set_cons_zero, List.set_cons_succ]
            refine wpAnyH_take (i := 4) (oi := { dst := some 64, op := Op.move (Operand.tmp 0), type := 22, pos := "arrearsref18.go:216", after := #[], guard := none }) (v := .slice a n c) rfl (by kernel_rfl) (by kernel_rfl) (by kernel_rfl) (fun _ _ _ h => h) (Or.inl ⟨by rfl, fun w' hs => by go_simp⟩) hH ?_
            try simp only [Act.put, List.setIfInBounds_toArray, List.set_cons_zero, List.set_cons_succ]
            refine wpAnyH_take (i := 5) (oi := { dst := some 65, op := Op.move (Operand.tmp 12), type := 3, pos := "arrearsref18.go:216", after := #[], guard := none }) (v := .int .i64 ((E : Int) + 1)) rfl (by kernel_rfl) (by kernel_rfl) (by kernel_rfl) (fun _ _ _ h => h) (Or.inl ⟨by rfl, fun w' hs => by go_simp⟩) hH ?_
            try simp only [Act.put, List.setIfInBounds_toArray, List.set_cons_zero, List.set_cons_succ]
            refine wpAnyH_take (i := 6) (oi := { dst := some 66, op := Op.move (Operand.tmp 6), type := 3, pos := "arrearsref18.go:216", after := #[], guard := none }) (v := .int .i64 (Q : Int)) rfl (by kernel_rfl) (by kernel_rfl) (by kernel_rfl) (fun _ _ _ h => h) (Or.inl ⟨by rfl, fun w' hs => by go_simp⟩) hH ?_
            try simp only [Act.put, List.setIfInBounds_toArray, List.set_cons_zero, List.set_cons_succ]
            refine wpAnyH_take (i := 7) (oi := { dst := some 67, op := Op.slice 22 (Operand.tmp 64) (some (Operand.tmp 65)) (some (Operand.tmp 66)) none, type := 22, pos := "arrearsref18.go:216", after := #[{ on := 4, ground := Ground.data }, { on := 5, ground := Ground.data }, { on := 6, ground := Ground.data }], guard := none }) (v := .slice AD fl (c - (E + 1))) rfl (by kernel_rfl) (by kernel_rfl) (by kernel_rfl) (fun _ _ _ h => h) (Or.inl ⟨by rfl, fun w' hs => by go_simp⟩) hH ?_
            try simp only [Act.put, List.setIfInBounds_toArray, List.set_cons_zero, List.set_cons_succ]
            refine wpAnyH_take (i := 8) (oi := { dst := some 68, op := Op.convert 22 9 (Operand.tmp 67), type := 9, pos := "arrearsref18.go:216", after := #[{ on := 7, ground := Ground.data }], guard := none }) (v := .string FT) rfl (by kernel_rfl) (by kernel_rfl) (by kernel_rfl) (fun _ _ _ h => h) (Or.inl ⟨by rfl, fun w' hs => by have cq := CV.out _ hs.2; go_simp⟩) hH ?_
            try simp only [Act.put, List.setIfInBounds_toArray, List.set_cons_zero, List.set_cons_succ]
            refine wpAnyH_ready (rs := [9, 13]) (by kernel_rfl) (by simp) ?_
            refine AllReadyH.cons (o := { dst := some 69, op := Op.call { callee := Callee.value (Operand.func 29), args := #[Operand.tmp 60, Operand.tmp 63, Operand.tmp 68], argTypes := #[24, 5, 9] }, type := 64, pos := "arrearsref18.go:216", after := #[{ on := 0, ground := Ground.data }, { on := 3, ground := Ground.data }, { on := 8, ground := Ground.data }], guard := none }) rfl (fun Kx hK => ?_) (AllReadyH.cons (o := { dst := some 13, op := Op.alloc 24, type := 0, pos := "arrearsref18.go:216", after := #[], guard := none }) rfl (fun Kx hK => ?_) AllReadyH.nil)
            · go_simp
              refine (PT.out _ (Below.drew BW.out)).mono ?_
              rintro e w1 ⟨⟨⟨b0, b1, b2, b3, b4, b5, b6⟩, tf, rfl, ht, hf⟩, hU⟩
              have H1 : Hid (Below wr.heap.size wr w1) := below_trans (Below.drew (Below.refl _ _)) hU
              refine hK.out _ _ ⟨HB.out.2.2.below H1.out, below_trans BW.out H1.out⟩ (fun hH => ?_)
              try simp only [Act.put, List.setIfInBounds_toArray, List.set_cons_zero, List.set_cons_succ]
              refine wpAnyH_take (i := 10) (oi := { dst := some 59, op := Op.move (Operand.tmp 69), type := 64, pos := "arrearsref18.go:216", after := #[{ on := 9, ground := Ground.data }], guard := none }) (v := .tuple #[opV ⟨b0, b1, b2, b3, b4, b5, b6⟩, .bool tf]) rfl (by kernel_rfl) (by kernel_rfl) (by kernel_rfl) (fun _ _ _ h => h) (Or.inl ⟨by rfl, fun w' hs => by go_simp⟩) hH ?_
              try simp only [Act.put, List.setIfInBounds_toArray, List.set_cons_zero, List.set_cons_succ]
              refine wpAnyH_take (i := 11) (oi := { dst := some 70, op := Op.extract (Operand.tmp 59) 0, type := 24, pos := "arrearsref18.go:216", after := #[{ on := 10, ground := Ground.data }], guard := none }) (v := opV ⟨b0, b1, b2, b3, b4, b5, b6⟩) rfl (by kernel_rfl) (by kernel_rfl) (by kernel_rfl) (fun _ _ _ h => h) (Or.inl ⟨by rfl, fun w' hs => by go_simp⟩) hH ?_
              try simp only [Act.put, List.setIfInBounds_toArray, List.set_cons_zero, List.set_cons_succ]
              refine wpAnyH_take (i := 12) (oi := { dst := some 71, op := Op.extract (Operand.tmp 59) 1, type := 4, pos := "arrearsref18.go:216", after := #[{ on := 10, ground := Ground.data }, { on := 14, ground := Ground.gcOnly Departure.lateStores }], guard := none }) (v := .bool tf) rfl (by kernel_rfl) (by kernel_rfl) (by kernel_rfl) (fun _ _ _ h => h) (Or.inl ⟨by rfl, fun w' hs => by go_simp⟩) hH ?_
              try simp only [Act.put, List.setIfInBounds_toArray, List.set_cons_zero, List.set_cons_succ]
              refine wpAnyH_ready (rs := [13]) (by kernel_rfl) (by simp) ?_
              refine AllReadyH.cons (o := { dst := some 13, op := Op.alloc 24, type := 0, pos := "arrearsref18.go:216", after := #[], guard := none }) rfl (fun Kx hK => ?_) AllReadyH.nil
              go_simp
              have BA : Hid (Below wr.heap.size wr (w1.alloc (.cells (opL cm0).toArray 24))) := below_trans H1.out (below_alloc _ _)
              refine hK.out _ _ ⟨HB.out.2.2.below BA.out, below_trans BW.out BA.out⟩ (fun hH => ?_)
              try simp only [Act.put, List.setIfInBounds_toArray, List.set_cons_zero, List.set_cons_succ]
              refine wpAnyH_ready (rs := [14]) (by kernel_rfl) (by simp) ?_
              refine AllReadyH.cons (o := { dst := none, op := Op.store 24 (Operand.tmp 13) (Operand.tmp 70), type := 0, pos := "arrearsref18.go:216", after := #[{ on := 13, ground := Ground.data }, { on := 11, ground := Ground.data }, { on := 9, ground := Ground.chain }, { on := 0, ground := Ground.phase }, { on := 1, ground := Ground.phase }, { on := 2, ground := Ground.phase }, { on := 3, ground := Ground.phase }, { on := 4, ground := Ground.phase }, { on := 5, ground := Ground.phase }, { on := 6, ground := Ground.phase }, { on := 7, ground := Ground.phase }, { on := 8, ground := Ground.phase }, { on := 9, ground := Ground.phase }, { on := 10, ground := Ground.phase }, { on := 11, ground := Ground.phase }, { on := 12, ground := Ground.textOnly Departure.lateStores }, { on := 13, ground := Ground.phase }], guard := none }) rfl (fun Kx hK => ?_) AllReadyH.nil
              refine op_putR (zs := opL cm0) (opL ⟨b0, b1, b2, b3, b4, b5, b6⟩) rfl (infoO _) (opV_one _) rfl _ _ rfl (w1.heap.size) rfl rfl (Blk.new 24 (opL cm0) w1) ?_
              intro w8 nb8 g8
              have B8 : Hid (Below wr.heap.size wr w8) := below_row (BA.out) g8 (H1.out.size)
              refine hK.out _ _ ⟨HB.out.2.2.below B8.out, below_trans BW.out B8.out⟩ (fun hH => ?_)
              try simp only [Act.put, List.setIfInBounds_toArray, List.set_cons_zero, List.set_cons_succ]
              refine wpAnyH_take (i := 15) (oi := { dst := some 14, op := Op.assign (Operand.tmp 71), type := 4, pos := "arrearsref18.go:216", after := #[{ on := 12, ground := Ground.data }, { on := 14, ground := Ground.chain }, { on := 0, ground := Ground.phase }, { on := 1, ground := Ground.phase }, { on := 2, ground := Ground.phase }, { on := 3, ground := Ground.phase }, { on := 4, ground := Ground.phase }, { on := 5, ground := Ground.phase }, { on := 6, ground := Ground.phase }, { on := 7, ground := Ground.phase }, { on := 8, ground := Ground.phase }, { on := 9, ground := Ground.phase }, { on := 10, ground := Ground.phase }, { on := 11, ground := Ground.phase }, { on := 12, ground := Ground.phase }, { on := 13, ground := Ground.phase }, { on := 14, ground := Ground.phase }], guard := none }) (v := .bool tf) rfl (by kernel_rfl) (by kernel_rfl) (by kernel_rfl) (fun _ _ _ h => h) (Or.inl ⟨by rfl, fun w' hs => by go_simp⟩) hH ?_
              try simp only [Act.put, List.setIfInBounds_toArray, List.set_cons_zero, List.set_cons_succ]
              refine wpAnyH_done (by kernel_rfl) ?_ _
              clear hH hK
              go_wp2_with fail
              go_meet
              exact ⟨_, ⟨b0, b1, b2, b3, b4, b5, b6⟩, tf, rfl, rfl, ⟨ht, hf, H1.out.size, nb8, B8.out⟩⟩
            · go_simp
              have BA : Hid (Below wr.heap.size wr (wr.drew.alloc (.cells (opL cm0).toArray 24))) := below_trans (Below.drew (Below.refl _ _)) (below_alloc _ _)
              refine hK.out _ _ ⟨HB.out.2.2.below BA.out, below_trans BW.out BA.out⟩ (fun hH => ?_)
              try simp only [Act.put, List.setIfInBounds_toArray, List.set_cons_zero, List.set_cons_succ]
              refine wpAnyH_ready (rs := [9]) (by kernel_rfl) (by simp) ?_
              refine AllReadyH.cons (o := { dst := some 69, op := Op.call { callee := Callee.value (Operand.func 29), args := #[Operand.tmp 60, Operand.tmp 63, Operand.tmp 68], argTypes := #[24, 5, 9] }, type := 64, pos := "arrearsref18.go:216", after := #[{ on := 0, ground := Ground.data }, { on := 3, ground := Ground.data }, { on := 8, ground := Ground.data }], guard := none }) rfl (fun Kx hK => ?_) AllReadyH.nil
              go_simp
              refine (PT.out _ (below_trans BW.out BA.out)).mono ?_
              rintro e w1 ⟨⟨⟨b0, b1, b2, b3, b4, b5, b6⟩, tf, rfl, ht, hf⟩, hU⟩
              have H1 : Hid (Below wr.heap.size wr w1) := below_trans BA.out hU
              refine hK.out _ _ ⟨HB.out.2.2.below H1.out, below_trans BW.out H1.out⟩ (fun hH => ?_)
              try simp only [Act.put, List.setIfInBounds_toArray, List.set_cons_zero, List.set_cons_succ]
              refine wpAnyH_take (i := 10) (oi := { dst := some 59, op := Op.move (Operand.tmp 69), type := 64, pos := "arrearsref18.go:216", after := #[{ on := 9, ground := Ground.data }], guard := none }) (v := .tuple #[opV ⟨b0, b1, b2, b3, b4, b5, b6⟩, .bool tf]) rfl (by kernel_rfl) (by kernel_rfl) (by kernel_rfl) (fun _ _ _ h => h) (Or.inl ⟨by rfl, fun w' hs => by go_simp⟩) hH ?_
              try simp only [Act.put, List.setIfInBounds_toArray, List.set_cons_zero, List.set_cons_succ]
              refine wpAnyH_take (i := 11) (oi := { dst := some 70, op := Op.extract (Operand.tmp 59) 0, type := 24, pos := "arrearsref18.go:216", after := #[{ on := 10, ground := Ground.data }], guard := none }) (v := opV ⟨b0, b1, b2, b3, b4, b5, b6⟩) rfl (by kernel_rfl) (by kernel_rfl) (by kernel_rfl) (fun _ _ _ h => h) (Or.inl ⟨by rfl, fun w' hs => by go_simp⟩) hH ?_
              try simp only [Act.put, List.setIfInBounds_toArray, List.set_cons_zero, List.set_cons_succ]
              refine wpAnyH_take (i := 12) (oi := { dst := some 71, op := Op.extract (Operand.tmp 59) 1, type := 4, pos := "arrearsref18.go:216", after := #[{ on := 10, ground := Ground.data }, { on := 14, ground := Ground.gcOnly Departure.lateStores }], guard := none }) (v := .bool tf) rfl (by kernel_rfl) (by kernel_rfl) (by kernel_rfl) (fun _ _ _ h => h) (Or.inl ⟨by rfl, fun w' hs => by go_simp⟩) hH ?_
              try simp only [Act.put, List.setIfInBounds_toArray, List.set_cons_zero, List.set_cons_succ]
              refine wpAnyH_ready (rs := [14]) (by kernel_rfl) (by simp) ?_
              refine AllReadyH.cons (o := { dst := none, op := Op.store 24 (Operand.tmp 13) (Operand.tmp 70), type := 0, pos := "arrearsref18.go:216", after := #[{ on := 13, ground := Ground.data }, { on := 11, ground := Ground.data }, { on := 9, ground := Ground.chain }, { on := 0, ground := Ground.phase }, { on := 1, ground := Ground.phase }, { on := 2, ground := Ground.phase }, { on := 3, ground := Ground.phase }, { on := 4, ground := Ground.phase }, { on := 5, ground := Ground.phase }, { on := 6, ground := Ground.phase }, { on := 7, ground := Ground.phase }, { on := 8, ground := Ground.phase }, { on := 9, ground := Ground.phase }, { on := 10, ground := Ground.phase }, { on := 11, ground := Ground.phase }, { on := 12, ground := Ground.textOnly Departure.lateStores }, { on := 13, ground := Ground.phase }], guard := none }) rfl (fun Kx hK => ?_) AllReadyH.nil
              refine op_putR (zs := opL cm0) (opL ⟨b0, b1, b2, b3, b4, b5, b6⟩) rfl (infoO _) (opV_one _) rfl _ _ rfl (wr.heap.size) rfl rfl ((Blk.new 24 (opL cm0) wr.drew).below hU) ?_
              intro w8 nb8 g8
              have B8 : Hid (Below wr.heap.size wr w8) := below_row (H1.out) g8 (Nat.le_refl _)
              refine hK.out _ _ ⟨HB.out.2.2.below B8.out, below_trans BW.out B8.out⟩ (fun hH => ?_)
              try simp only [Act.put, List.setIfInBounds_toArray, List.set_cons_zero, List.set_cons_succ]
              refine wpAnyH_take (i := 15) (oi := { dst := some 14, op := Op.assign (Operand.tmp 71), type := 4, pos := "arrearsref18.go:216", after := #[{ on := 12, ground := Ground.data }, { on := 14, ground := Ground.chain }, { on := 0, ground := Ground.phase }, { on := 1, ground := Ground.phase }, { on := 2, ground := Ground.phase }, { on := 3, ground := Ground.phase }, { on := 4, ground := Ground.phase }, { on := 5, ground := Ground.phase }, { on := 6, ground := Ground.phase }, { on := 7, ground := Ground.phase }, { on := 8, ground := Ground.phase }, { on := 9, ground := Ground.phase }, { on := 10, ground := Ground.phase }, { on := 11, ground := Ground.phase }, { on := 12, ground := Ground.phase }, { on := 13, ground := Ground.phase }, { on := 14, ground := Ground.phase }], guard := none }) (v := .bool tf) rfl (by kernel_rfl) (by kernel_rfl) (by kernel_rfl) (fun _ _ _ h => h) (Or.inl ⟨by rfl, fun w' hs => by go_simp⟩) hH ?_
              try simp only [Act.put, List.setIfInBounds_toArray, List.set_cons_zero, List.set_cons_succ]
              refine wpAnyH_done (by kernel_rfl) ?_ _
              clear hH hK
              go_wp2_with fail
              go_meet
              exact ⟨_, ⟨b0, b1, b2, b3, b4, b5, b6⟩, tf, rfl, rfl, ⟨ht, hf, Nat.le_refl _, nb8, B8.out⟩⟩
          case rest =>
          obtain ⟨D, o', tf, rfl, rfl, HC⟩ := hcut
          obtain ⟨ht, hf, hD, BD, hb⟩ := HC.out
          have B3 : Hid (Below w.heap.size w wc) := below_trans BW.out hb
          have X2 : Hid (Blk w.heap.size 24 (opL cm0) wc) := HB.out.1.below hb
          have X5 : Hid (Blk (w.heap.size + 1) 24 (opL cm0) wc) := HB.out.2.1.below hb
          have XG : Hid (Blk G 24 (opL ⟨kk, ln, am, rt, cn, dy, tx⟩) wc) := HB.out.2.2.below hb
          have XD : Hid (Blk D 24 (opL o') wc) := BD
          have hw1 : w.heap.size + 1 < wr.heap.size := by omega
          clear HC BD hb HB BW PT c0 c1 c2 c3 c4 c5 c6 ix sl1 sl2
          cases tf with
          | false =>
            have RE := RS2.out (hf rfl)
            subst RE
            clear RS1 RS2 EI' ht hf HM CV
            go_wp2_with (first
              | (refine step_load rfl 24 _ rfl (w.heap.size + 1) 0 rfl (opL cm0) _ X5.out.all Tryz.underlying24 rfl infoO0 ?_)
              | (refine step_store rfl 24 _ _ rfl w.heap.size 0 24 (opL cm0) (opL cm0) rfl rfl X2.out (Nat.le_refl _) infoO0 (opV_one cm0) ?_; intro w4 nb4 g4; have N4 : Hid (Blk w.heap.size 24 (opL cm0) w4) := nb4; have B4 : Hid (Below w.heap.size w w4) := below_row B3.out g4 (Nat.le_refl _); clear nb4 g4 X2 X5 B3))
            refine ret_blk_tmp2 rfl rfl w.heap.size 24 (opL cm0) _ rfl N4.out Tryz.underlying24 rfl infoO0 ?_
            exact ⟨rfl, B4.out⟩
          | true =>
            have RE : Hid (readF (sl.drop (i + 1)) (fs.drop (i + 1)) (F + 1 + plc fs (i + 1)) o' = R) := RS1.out o' (ht rfl)
            have IO := infoO o'
            have ON := opV_one o'
            clear RS1 RS2 ht hf HM CV
            go_wp2_with (first
              | (refine step_load rfl 24 _ rfl D 0 rfl (opL o') _ XD.out.all Tryz.underlying24 rfl IO ?_)
              | (refine step_store rfl 24 _ _ rfl G 0 24 (opL ⟨kk, ln, am, rt, cn, dy, tx⟩) (opL o') rfl rfl XG.out (Nat.le_refl _) IO ON ?_; intro w4 nb4 g4; have N4 : Hid (Blk w.heap.size 24 (opL cm0) w4 ∧ Blk (w.heap.size + 1) 24 (opL cm0) w4 ∧ Blk G 24 (opL o') w4) := ⟨X2.out.grown g4 (by simp; omega), X5.out.grown g4 (by simp; omega), nb4⟩; have B4 : Hid (Below w.heap.size w w4) := below_row B3.out g4 (by omega); clear nb4 g4 X2 X5 XG XD B3))
            go_roundw
            case rel => exact ⟨i + 1, Q, o', rfl, by go_num, by omega, by omega, EI', RE, N4, B4.out⟩
            case measure => simp [RowKit.intOf]; omega
        · obtain rfl : i = M := by omega
          have RE := readF_end HM.out.1.symm HI.out
          subst RE
          have X2 : Hid (Blk w.heap.size 24 (opL cm0) wr) := HB.out.1
          have XG : Hid (Blk G 24 (opL o) wr) := HB.out.2.2
          have B3 : Hid (Below w.heap.size w wr) := B
          have IO := infoO o
          have ON := opV_one o
          clear HI EI HB B PL SL LT HR HT HSP HM
          go_wp2_with (first
            | (refine step_load rfl 24 _ rfl G 0 rfl (opL o) _ XG.out.all Tryz.underlying24 rfl IO ?_)
            | (refine step_store rfl 24 _ _ rfl w.heap.size 0 24 (opL cm0) (opL o) rfl rfl X2.out (Nat.le_refl _) IO ON ?_; intro w4 nb4 g4; have N4 : Hid (Blk w.heap.size 24 (opL o) w4) := nb4; have B4 : Hid (Below w.heap.size w w4) := below_row B3.out g4 (Nat.le_refl _); clear nb4 g4 X2 XG B3))
          refine ret_blk_tmp2 rfl rfl w.heap.size 24 (opL o) _ rfl N4.out Tryz.underlying24 rfl IO ?_
          exact ⟨rfl, B4.out⟩
end Go.Proofs.YtkjnklagjhhhkaaGreatDoor
