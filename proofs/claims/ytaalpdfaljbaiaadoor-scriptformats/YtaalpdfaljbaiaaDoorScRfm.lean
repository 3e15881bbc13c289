/-
  Ours: the reference's Format; the walk of ScriptFormats.
-/
import Derived.Test.YtaalpdfaljbaiaaDoorScRtl
namespace Go.Proofs.YtaalpdfaljbaiaaDoor
open Go.RowKit Go.Lib ScF

theorem str_add2 (a b : List UInt8) : ({ data := a.toArray } : ByteArray) ++ { data := #[32] } ++ { data := b.toArray } = { data := (a ++ 32 :: b).toArray } := by
  apply ByteArray.ext
  simp [ByteArray.data_append]
theorem str_one (a : List UInt8) : (({ data := a.toArray } : ByteArray) ++ { data := #[32] }).size = a.length + 1 := by
  show (({ data := a.toArray } : ByteArray) ++ { data := #[32] }).data.size = _
  rw [ByteArray.data_append]; simp
/-- The seven cells of an operation in a block. -/
structure OpC (G : Nat) (o : Cm) (w : World) : Prop where
  c0 : w.cell? ⟨G, 0, none⟩ = some (.int .i64 o.kind)
  c1 : w.cell? ⟨G, 1, none⟩ = some (.int .i64 o.loan)
  c2 : w.cell? ⟨G, 2, none⟩ = some (.int .i64 o.amount)
  c3 : w.cell? ⟨G, 3, none⟩ = some (.int .i64 o.rate)
  c4 : w.cell? ⟨G, 4, none⟩ = some (.int .i64 o.count)
  c5 : w.cell? ⟨G, 5, none⟩ = some (.int .i64 o.days)
  c6 : w.cell? ⟨G, 6, none⟩ = some (.string ⟨o.text.toArray⟩)
theorem OpC.of {G : Nat} {o : Cm} {w : World} {t : TypeId} (h : Blk G t (opL o) w) : OpC G o w := ⟨h.cell 0 _ rfl, h.cell 1 _ rfl, h.cell 2 _ rfl, h.cell 3 _ rfl, h.cell 4 _ rfl, h.cell 5 _ rfl, h.cell 6 _ rfl⟩
theorem let_at {sl : List Nat} {i : Nat} (h : i < sl.length) (hs : ∀ s ∈ sl, s ≤ 6) : ((sl.map (fun s => UInt8.ofNat (letN s))).getD i 0).toNat = letN (sl.getD i 0) := by
  rw [List.getD_eq_getElem?_getD, List.getD_eq_getElem?_getD, List.getElem?_map, List.getElem?_eq_getElem h]
  have h6 := hs _ (List.getElem_mem h)
  simp only [Option.map_some, Option.getD_some]
  generalize sl[i] = s at *
  have : s = 0 ∨ s = 1 ∨ s = 2 ∨ s = 3 ∨ s = 4 ∨ s = 5 ∨ s = 6 := by omega
  rcases this with rfl | rfl | rfl | rfl | rfl | rfl | rfl <;> rfl

set_option maxRecDepth 40000 in
set_option maxHeartbeats 4000000 in
theorem rfmt_at (o : Cm) (ho : o.Ok) (ht : o.text.length ≤ 200000) (w : World) (hT : TabW w) : Calls Tryd.prog 13 #[opV o] w fun e w' => FmtAns (fmtOp o) e ∧ Below w.heap.size w w' := by
  have b0 := below_alloc w (.cells (opC o) 34)
  have WD : Hid (∀ w', Calls Tryd.prog 21 #[.int .i64 o.kind] w' fun e w'' => e = .returned (.string ⟨(wordI o.kind).toArray⟩) ∧ w'' = w') := fun w' => rword_at o.kind w'
  have SH : Hid (∀ w', Calls Tryd.prog 22 #[.int .i64 o.kind] w' fun e w'' => e = .returned (.string ⟨(shapeI o.kind).toArray⟩) ∧ w'' = w') := fun w' => rshape_at o.kind w'
  by_cases hkk : ¬ (1 ≤ o.kind ∧ o.kind ≤ 21)
  · have E : Hid (fmtOp o = none) := if_neg hkk
    have EW : wordI o.kind = [] := if_neg hkk
    rw [EW] at WD
    rw [E.out]
    clear E EW hT ho ht hkk SH
    obtain ⟨kd, ln, am, rt, cn, dy, tx⟩ := o
    simp only at WD
    go_enter Tryd.func13, Tryd.ntmps13
    go_wp2_with fail
    refine (WD.out _).mono ?_
    rintro e w1 ⟨rfl, hw⟩; rw [hw]; clear hw w1
    go_wp2_with fail
    go_ret2
    exact ⟨rfl, b0⟩
  have hkk' : 1 ≤ o.kind ∧ o.kind ≤ 21 := Classical.byContradiction hkk
  obtain ⟨k, hk⟩ : ∃ k : Nat, o.kind = (k : Int) := ⟨o.kind.toNat, by omega⟩
  have k1 : 1 ≤ k := by omega
  have k21 : k ≤ 21 := by omega
  have E : Hid (fmtOp o = short (lineS o (slotN k) (wordN k))) := by
    show _ = _
    unfold fmtOp
    rw [if_pos (by omega), hk]
    rfl
  have EW : wordI o.kind = wordN k := by unfold wordI; rw [if_pos hkk', hk]; rfl
  have ES : shapeI o.kind = (slotN k).map (fun s => UInt8.ofNat (letN s)) := by unfold shapeI; rw [if_pos hkk', hk]; rfl
  rw [EW] at WD
  rw [ES] at SH
  rw [E.out]
  have EM : (wordN k).isEmpty = false := by
    have := word_pos k (by omega) (by omega)
    rw [List.isEmpty_eq_false_iff]
    intro e; rw [e] at this; simp at this
  have BK : Hid (Blk w.heap.size 34 (opL o) (w.alloc (.cells (opC o) 34))) := Blk.new 34 (opL o) w
  have TL : Hid (∀ s : Nat, s ≤ 6 → ∀ w', TabW w' → Calls Tryd.prog 23 #[opV o, .int .u8 (letN s : Int)] w' fun e w'' => TellAns (tellS o s) e ∧ Below w'.heap.size w' w'') := fun s hs w' h1 => rtell_at o ho ht s hs w' h1
  have TT : Hid (∀ s t, tellS o s = some t → t.length ≤ 200000) := fun s t h => tell_len o ho ht s t h
  have SL : Hid (∀ i, i < (slotN k).length → (slotN k).getD i 0 ≤ 6) := fun i hi => slot_le k (by omega) _ (by rw [List.getD_eq_getElem?_getD, List.getElem?_eq_getElem hi]; exact List.getElem_mem hi)
  have LT : Hid (∀ i, i < (slotN k).length → ∀ W, (Instr.index 9 (.string ⟨((slotN k).map (fun s => UInt8.ofNat (letN s))).toArray⟩) (.int .i64 ((i : Nat) : Int))).run Tryd.prog W = .ok (.int .u8 ((letN ((slotN k).getD i 0) : Nat) : Int)) W) := fun i hi W => by
    have := idx_str ((slotN k).map (fun s => UInt8.ofNat (letN s))) i (by simpa using hi) W
    rwa [let_at hi (slot_le k (by omega))] at this
  have SN : (slotN k).length ≤ 5 := slot_len k (by omega)
  have SZ : ({ data := ((slotN k).map (fun s => UInt8.ofNat (letN s))).toArray } : ByteArray).size = (slotN k).length := by rw [str_size, List.length_map]
  have I0 : Hid (LnI o (slotN k) (lineS o (slotN k) (wordN k)) 0 (wordN k)) := ⟨rfl, by have := word_len k (by omega); omega⟩
  have KT : Hid (TabW w) := hT
  have B0 : Hid (Below w.heap.size w (w.alloc (.cells (opC o) 34))) := b0
  clear E EW ES hT ho ht b0 hkk hkk'
  generalize lineS o (slotN k) (wordN k) = R at *
  generalize wordN k = wd at *
  generalize ({ data := ((slotN k).map (fun s => UInt8.ofNat (letN s))).toArray } : ByteArray) = shp at *
  generalize hsn : slotN k = sl at *
  clear hsn
  obtain ⟨n, hn⟩ : ∃ n, sl.length = n := ⟨_, rfl⟩
  have HN : Hid (sl.length = n) := hn
  rw [hn] at SL SN LT SZ
  clear hn
  obtain ⟨kd, ln, am, rt, cn, dy, tx⟩ := o
  simp only at hk WD SH
  subst hk
  go_enter Tryd.func13, Tryd.ntmps13
  go_wp2_with fail
  refine (WD.out _).mono ?_
  rintro e w1 ⟨rfl, hw⟩; rw [hw]; clear hw w1
  go_wp2_with fail
  refine (SH.out _).mono ?_
  rintro e w1 ⟨rfl, hw⟩; rw [hw]; clear hw w1
  go_wp2_with fail
  generalize hW : w.alloc (.cells #[.int .i64 (k : Int), .int .i64 ln, .int .i64 am, .int .i64 rt, .int .i64 cn, .int .i64 dy, .string ⟨tx.toArray⟩] 34) = W
  have BK1 : Hid (Blk w.heap.size 34 (opL ⟨(k : Int), ln, am, rt, cn, dy, tx⟩) W) := by rw [← hW]; exact BK
  have B1 : Hid (Below w.heap.size w W) := by rw [← hW]; exact B0
  clear BK B0 hW WD SH EM
  go_loopw [4, 6, 7, 8] (fun v4 v6 _ _ wr => ∃ (i : Nat) (l : List UInt8), v6 = .int .i64 (i : Int) ∧ i ≤ n ∧ v4 = .string ⟨l.toArray⟩ ∧ Hid (LnI ⟨(k : Int), ln, am, rt, cn, dy, tx⟩ sl R i l) ∧ Below W.heap.size W wr) (fun _ v6 _ _ _ => n - (RowKit.intOf v6).toNat)
  case atStart => exact ⟨0, wd, rfl, by omega, rfl, I0, Below.refl _ _⟩
  case round =>
    clear I0
    obtain ⟨i, l, rfl, hi, rfl, I, B⟩ := hrel
    have ll := I.out.len
    have hls := str_size l
    have hl1 := str_one l
    by_cases hlt : (i : Int) < (n : Int)
    · have s6 := SL.out i (by omega)
      have ix := LT.out i (by omega)
      have NX : Hid (∀ t, tellS ⟨(k : Int), ln, am, rt, cn, dy, tx⟩ (sl.getD i 0) = some t → t.length ≤ 200000 ∧ LnI ⟨(k : Int), ln, am, rt, cn, dy, tx⟩ sl R (i + 1) (l ++ 32 :: t)) := fun t h => ⟨TT.out _ _ h, I.out.next (by rw [HN.out]; omega) h (TT.out _ _ h)⟩
      have NO : Hid (tellS ⟨(k : Int), ln, am, rt, cn, dy, tx⟩ (sl.getD i 0) = none → R = none) := fun h => I.out.no (by rw [HN.out]; omega) h
      have CL : Hid (∀ w1, Below wr.heap.size wr w1 → Calls Tryd.prog 23 #[opV ⟨(k : Int), ln, am, rt, cn, dy, tx⟩, .int .u8 ((letN (sl.getD i 0) : Nat) : Int)] w1 fun e w'' => TellAns (tellS ⟨(k : Int), ln, am, rt, cn, dy, tx⟩ (sl.getD i 0)) e ∧ Below w1.heap.size w1 w'') := fun w1 hb => TL.out _ s6 w1 (tab_below KT.out (below_trans (below_trans B1.out B) hb))
      obtain ⟨c0, c1, c2, c3, c4, c5, c6⟩ := OpC.of (BK1.out.below B)
      have LTW : Hid (w.heap.size < wr.heap.size) := Nat.lt_of_lt_of_le BK1.out.lt B.size
      have BW : Hid (Below W.heap.size W wr) := B
      clear TL SL TT I LT B
      generalize sl.getD i 0 = S at *
      generalize letN S = LS at *
      simp only at c0 c1 c2 c3 c4 c5 c6
      have ST : Hid (Below wr.heap.size wr wr.drew ∧ wr.drew.cell? ⟨w.heap.size, 0, none⟩ = some (.int .i64 (k : Int)) ∧ wr.drew.cell? ⟨w.heap.size, 1, none⟩ = some (.int .i64 ln) ∧ wr.drew.cell? ⟨w.heap.size, 2, none⟩ = some (.int .i64 am) ∧ wr.drew.cell? ⟨w.heap.size, 3, none⟩ = some (.int .i64 rt) ∧ wr.drew.cell? ⟨w.heap.size, 4, none⟩ = some (.int .i64 cn) ∧ wr.drew.cell? ⟨w.heap.size, 5, none⟩ = some (.int .i64 dy) ∧ wr.drew.cell? ⟨w.heap.size, 6, none⟩ = some (.string ⟨tx.toArray⟩)) := ⟨Below.drew (Below.refl _ _), c0, c1, c2, c3, c4, c5, c6⟩
      have HK : Hid (∀ {a b : World}, (Below wr.heap.size wr a ∧ a.cell? ⟨w.heap.size, 0, none⟩ = some (.int .i64 (k : Int)) ∧ a.cell? ⟨w.heap.size, 1, none⟩ = some (.int .i64 ln) ∧ a.cell? ⟨w.heap.size, 2, none⟩ = some (.int .i64 am) ∧ a.cell? ⟨w.heap.size, 3, none⟩ = some (.int .i64 rt) ∧ a.cell? ⟨w.heap.size, 4, none⟩ = some (.int .i64 cn) ∧ a.cell? ⟨w.heap.size, 5, none⟩ = some (.int .i64 dy) ∧ a.cell? ⟨w.heap.size, 6, none⟩ = some (.string ⟨tx.toArray⟩)) → Below a.heap.size a b → (Below wr.heap.size wr b ∧ b.cell? ⟨w.heap.size, 0, none⟩ = some (.int .i64 (k : Int)) ∧ b.cell? ⟨w.heap.size, 1, none⟩ = some (.int .i64 ln) ∧ b.cell? ⟨w.heap.size, 2, none⟩ = some (.int .i64 am) ∧ b.cell? ⟨w.heap.size, 3, none⟩ = some (.int .i64 rt) ∧ b.cell? ⟨w.heap.size, 4, none⟩ = some (.int .i64 cn) ∧ b.cell? ⟨w.heap.size, 5, none⟩ = some (.int .i64 dy) ∧ b.cell? ⟨w.heap.size, 6, none⟩ = some (.string ⟨tx.toArray⟩))) := fun {a b} h kk => by
        have lt : w.heap.size < a.heap.size := Nat.lt_of_lt_of_le LTW.out h.1.size
        have cc : ∀ j, b.cell? ⟨w.heap.size, j, none⟩ = a.cell? ⟨w.heap.size, j, none⟩ := fun j => kk.cell (p := ⟨w.heap.size, j, none⟩) lt
        simp only [cc]
        exact ⟨below_trans h.1 kk, h.2⟩
      clear c0 c1 c2 c3 c4 c5 c6
      cases ht : tellS ⟨(k : Int), ln, am, rt, cn, dy, tx⟩ S with
      | none =>
        rw [ht] at CL
        have RN : Hid (R = none) := NO.out ht
        clear NX NO ht
        go_wp2_with fail
        go_region_held3 (fun w' => Below wr.heap.size wr w' ∧ w'.cell? ⟨w.heap.size, 0, none⟩ = some (.int .i64 (k : Int)) ∧ w'.cell? ⟨w.heap.size, 1, none⟩ = some (.int .i64 ln) ∧ w'.cell? ⟨w.heap.size, 2, none⟩ = some (.int .i64 am) ∧ w'.cell? ⟨w.heap.size, 3, none⟩ = some (.int .i64 rt) ∧ w'.cell? ⟨w.heap.size, 4, none⟩ = some (.int .i64 cn) ∧ w'.cell? ⟨w.heap.size, 5, none⟩ = some (.int .i64 dy) ∧ w'.cell? ⟨w.heap.size, 6, none⟩ = some (.string ⟨tx.toArray⟩)) (first | assumption | exact ST.out | exact HK.out (by assumption) hU) ((go_at_call 23; refine (CL.out _ (And.left (by assumption))).mono ?_; rintro e w1 ⟨⟨t, rfl⟩, hU⟩))
        all_goals
          have hh : Below wr.heap.size wr w1 := And.left (by assumption)
          have B2 := below_trans BW.out hh
          clear hh
          go_wp2_with fail
          go_ret2
          exact ⟨by rw [RN.out]; rfl, below_trans B1.out B2⟩
      | some t =>
        rw [ht] at CL
        obtain ⟨tl, nx⟩ := NX.out t ht
        have NX1 : Hid (LnI ⟨(k : Int), ln, am, rt, cn, dy, tx⟩ sl R (i + 1) (l ++ 32 :: t)) := nx
        have SA := str_add2 l t
        have hts := str_size t
        clear NX NO ht nx
        go_wp2_with fail
        go_region_held3 (fun w' => Below wr.heap.size wr w' ∧ w'.cell? ⟨w.heap.size, 0, none⟩ = some (.int .i64 (k : Int)) ∧ w'.cell? ⟨w.heap.size, 1, none⟩ = some (.int .i64 ln) ∧ w'.cell? ⟨w.heap.size, 2, none⟩ = some (.int .i64 am) ∧ w'.cell? ⟨w.heap.size, 3, none⟩ = some (.int .i64 rt) ∧ w'.cell? ⟨w.heap.size, 4, none⟩ = some (.int .i64 cn) ∧ w'.cell? ⟨w.heap.size, 5, none⟩ = some (.int .i64 dy) ∧ w'.cell? ⟨w.heap.size, 6, none⟩ = some (.string ⟨tx.toArray⟩)) (first | assumption | exact ST.out | exact HK.out (by assumption) hU) ((go_at_call 23; refine (CL.out _ (And.left (by assumption))).mono ?_; rintro e w1 ⟨rfl, hU⟩))
        all_goals
          have hh : Below wr.heap.size wr w1 := And.left (by assumption)
          have B2 := below_trans BW.out hh
          clear hh
          go_wp2_with fail
          go_roundw
          case rel => exact ⟨i + 1, l ++ 32 :: t, by go_num, by omega, by first | rfl | rw [← SA], NX1, B2⟩
          case measure => simp [RowKit.intOf]; omega
    · obtain rfl : i = n := by omega
      have RS := I.out.done HN.out.symm
      have RS1 : Hid (R = some l) := RS
      clear TL SL TT I RS LT
      by_cases hl : (100 : Int) < (l.length : Int)
      · have RN : Hid (short R = none) := by show _ = _; rw [RS1.out]; exact if_neg (by omega)
        go_wp2_with fail
        go_ret2
        exact ⟨by rw [RN.out]; rfl, below_trans B1.out B⟩
      · have RN : Hid (short R = some l) := by show _ = _; rw [RS1.out]; exact if_pos (by omega)
        go_wp2_with fail
        go_ret2
        exact ⟨by rw [RN.out]; rfl, below_trans B1.out B⟩
end Go.Proofs.YtaalpdfaljbaiaaDoor
