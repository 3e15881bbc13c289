/-
  Ours: script.Format.
-/
import Derived.Test.YtkjnklagjhhhkaaGreatDoorScTel
import Derived.Test.YtkjnklagjhhhkaaGreatDoorLedOwn
namespace Go.Proofs.YtkjnklagjhhhkaaGreatDoor
open Go.RowKit Go.Lib ScF

def FmtAns (r : Option (List UInt8)) (e : Ending) : Prop := match r with
  | some l => e = .returned (.tuple #[.string ⟨l.toArray⟩, .bool true])
  | none => e = .returned (.tuple #[.string ⟨#[]⟩, .bool false])
abbrev opL (o : Cm) : List Value := [.int .i64 o.kind, .int .i64 o.loan, .int .i64 o.amount, .int .i64 o.rate, .int .i64 o.count, .int .i64 o.days, .string ⟨o.text.toArray⟩]
theorem infoO (o : Cm) : (Tryz.prog.info? 24).map (·.size) = some (opL o).length := by
  have : (Tryz.prog.info? 24).map (·.size) = some 7 := by kernel_rfl
  exact this
theorem str_add (a b : List UInt8) : ({ data := a.toArray } : ByteArray) ++ ({ data := #[32] } ++ { data := b.toArray }) = { data := (a ++ 32 :: b).toArray } := by
  apply ByteArray.ext
  simp [ByteArray.data_append]
theorem str_size (l : List UInt8) : ({ data := l.toArray } : ByteArray).size = l.length := rfl

/-- What the loop over the slots holds. -/
structure LnI (o : Cm) (sl : List Nat) (r : Option (List UInt8)) (i : Nat) (l : List UInt8) : Prop where
  eq : lineS o (sl.drop i) l = r
  len : l.length ≤ 11 + i * 200001
theorem LnI.next {o : Cm} {sl : List Nat} {r : Option (List UInt8)} {i : Nat} {l t : List UInt8} (h : LnI o sl r i l) (hi : i < sl.length) (ht : tellS o (sl.getD i 0) = some t) (hl : t.length ≤ 200000) : LnI o sl r (i + 1) (l ++ 32 :: t) := by
  refine ⟨?_, by have := h.len; simp; omega⟩
  have e : sl.drop i = sl.getD i 0 :: sl.drop (i + 1) := by rw [List.drop_eq_getElem_cons hi, List.getD_eq_getElem?_getD, List.getElem?_eq_getElem hi]; rfl
  have := h.eq
  rw [e, lineS, ht] at this
  exact this
theorem LnI.no {o : Cm} {sl : List Nat} {r : Option (List UInt8)} {i : Nat} {l : List UInt8} (h : LnI o sl r i l) (hi : i < sl.length) (ht : tellS o (sl.getD i 0) = none) : r = none := by
  have e : sl.drop i = sl.getD i 0 :: sl.drop (i + 1) := by rw [List.drop_eq_getElem_cons hi, List.getD_eq_getElem?_getD, List.getElem?_eq_getElem hi]; rfl
  have := h.eq
  rw [e, lineS, ht] at this
  exact this.symm
theorem LnI.done {o : Cm} {sl : List Nat} {r : Option (List UInt8)} {i : Nat} {l : List UInt8} (h : LnI o sl r i l) (hi : i = sl.length) : r = some l := by
  have := h.eq
  rw [List.drop_of_length_le (by omega), lineS] at this
  exact this.symm

set_option maxRecDepth 40000 in
set_option maxHeartbeats 4000000 in
theorem sformat_atK (o : Cm) (ho : o.Ok) (ht : o.kind = 10 → o.text.length ≤ 200000) (w : World) (hT : TabW w) (hP : PlnW w) (hC : CmdW w) : Calls Tryz.prog 9 #[opV o] w fun e w' => FmtAns (fmtOp o) e ∧ Below w.heap.size w w' := by
  have b0 := below_alloc w (.cells (opC o) 24)
  by_cases h1 : o.kind < 1
  · have E : Hid (fmtOp o = none) := if_neg (by omega)
    rw [E.out]
    clear E hT hP hC ho ht
    obtain ⟨kd, ln, am, rt, cn, dy, tx⟩ := o
    simp only at h1
    go_enter Tryz.func9, Tryz.ntmps9
    go_wp2_with fail
    go_ret2
    exact ⟨rfl, b0⟩
  by_cases h2 : 21 < o.kind
  · have E : Hid (fmtOp o = none) := if_neg (by omega)
    rw [E.out]
    clear E hT hP hC ho ht
    obtain ⟨kd, ln, am, rt, cn, dy, tx⟩ := o
    simp only at h1 h2
    go_enter Tryz.func9, Tryz.ntmps9
    go_wp2_with fail
    go_ret2
    exact ⟨rfl, b0⟩
  obtain ⟨k, hk⟩ : ∃ k : Nat, o.kind = (k : Int) := ⟨o.kind.toNat, by omega⟩
  have k1 : 1 ≤ k := by omega
  have k21 : k ≤ 21 := by omega
  have E : Hid (fmtOp o = short (lineS o (slotN k) (wordN k))) := by
    show _ = _
    unfold fmtOp
    rw [if_pos (by omega), hk]
    rfl
  rw [E.out]
  have BK : Hid (Blk w.heap.size 24 (opL o) (w.alloc (.cells (opC o) 24))) := Blk.new 24 (opL o) w
  have hwd := hC.wd k (by omega)
  obtain ⟨a, c, hsl, hcap, -⟩ := hC.sl k (by omega)
  have glt := hC.lt
  have HEL : Hid (∀ i, i < (slotN k).length → ∃ g f, a = some ⟨g, f, none⟩ ∧ g < (w.alloc (.cells (opC o) 24)).heap.size ∧ (w.alloc (.cells (opC o) 24)).cell? ⟨g, f + i, none⟩ = some (.int .i64 (((slotN k).getD i 0 : Nat) : Int))) := fun i hi => by
    obtain ⟨a', c', hsl', -, hel⟩ := (hC.later b0).sl k (by omega)
    have e := (b0.cell (p := ⟨0, k * 2 + 1, none⟩) glt).trans hsl
    rw [hsl'] at e
    injection e with e
    injection e with e1 e2 e3
    subst e1
    exact hel i hi
  have TL : Hid (∀ s : Nat, s ≤ 6 → (s = 6 → o.text.length ≤ 200000) → ∀ w', TabW w' → PlnW w' → Calls Tryz.prog 18 #[opV o, .int .i64 (s : Int)] w' fun e w'' => TellAns (tellS o s) e ∧ Below w'.heap.size w' w'') := fun s hs h6 w' h1 h2 => tell_atK o ho s hs h6 w' h1 h2
  have TT : Hid (∀ s t, (s = 6 → o.text.length ≤ 200000) → tellS o s = some t → t.length ≤ 200000) := fun s t h6 h => tell_lenK o ho s h6 t h
  have K6 : Hid (∀ i, i < (slotN k).length → (slotN k).getD i 0 = 6 → o.text.length ≤ 200000) := fun i hi e => ht (by
    have hm : 6 ∈ slotN k := by rw [← e, List.getD_eq_getElem?_getD, List.getElem?_eq_getElem hi]; exact List.getElem_mem hi
    have := slot6 k (by omega) hm
    omega)
  have SL : Hid (∀ i, i < (slotN k).length → (slotN k).getD i 0 ≤ 6) := fun i hi => slot_le k (by omega) _ (by rw [List.getD_eq_getElem?_getD, List.getElem?_eq_getElem hi]; exact List.getElem_mem hi)
  have SN : (slotN k).length ≤ 5 := slot_len k (by omega)
  have I0 : Hid (LnI o (slotN k) (lineS o (slotN k) (wordN k)) 0 (wordN k)) := ⟨rfl, by have := word_len k (by omega); omega⟩
  have KT : Hid (TabW w ∧ PlnW w) := ⟨hT, hP⟩
  have B0 : Hid (Below w.heap.size w (w.alloc (.cells (opC o) 24))) := b0
  have IO := infoO o
  clear E hT hP hC ho ht b0 h1 h2
  generalize lineS o (slotN k) (wordN k) = R at *
  generalize wordN k = wd at *
  generalize hsn : slotN k = sl at *
  clear hsn
  obtain ⟨n, hn⟩ : ∃ n, sl.length = n := ⟨_, rfl⟩
  have HN : Hid (sl.length = n) := hn
  rw [hn] at HEL SL SN hsl hcap K6
  clear hn
  obtain ⟨kd, ln, am, rt, cn, dy, tx⟩ := o
  simp only at hk
  subst hk
  go_enter Tryz.func9, Tryz.ntmps9
  go_wp2_with fail
  generalize hW : w.alloc (.cells #[.int .i64 (k : Int), .int .i64 ln, .int .i64 am, .int .i64 rt, .int .i64 cn, .int .i64 dy, .string ⟨tx.toArray⟩] 24) = W
  have BK1 : Hid (Blk w.heap.size 24 (opL ⟨(k : Int), ln, am, rt, cn, dy, tx⟩) W) := by rw [← hW]; exact BK
  have B1 : Hid (Below w.heap.size w W) := by rw [← hW]; exact B0
  have HEL1 : Hid (∀ i, i < n → ∃ g f, a = some ⟨g, f, none⟩ ∧ g < W.heap.size ∧ W.cell? ⟨g, f + i, none⟩ = some (.int .i64 ((sl.getD i 0 : Nat) : Int))) := by rw [← hW]; exact HEL
  clear BK B0 HEL hW hwd hsl glt
  go_loopw [4, 6, 7, 8, 28] (fun v4 _ _ _ v28 wr => ∃ (i : Nat) (l : List UInt8), v28 = .int .i64 (i : Int) ∧ i ≤ n ∧ v4 = .string ⟨l.toArray⟩ ∧ Hid (LnI ⟨(k : Int), ln, am, rt, cn, dy, tx⟩ sl R i l) ∧ Below W.heap.size W wr) (fun _ _ _ _ v28 _ => n - (RowKit.intOf v28).toNat)
  case atStart => exact ⟨0, wd, rfl, by omega, rfl, I0, Below.refl _ _⟩
  case round =>
    clear I0
    obtain ⟨i, l, rfl, hi, rfl, I, B⟩ := hrel
    have ll := I.out.len
    have hls := str_size l
    by_cases hlt : (i : Int) < (n : Int)
    · obtain ⟨g, f, rfl, glt, cc⟩ := HEL1.out i (by omega)
      have cc2 := (B.cell (p := ⟨g, f + i, none⟩) glt).trans cc
      have s6 := SL.out i (by omega)
      have RG : Hid (wr.rangeAt w.heap.size 0 (opL ⟨(k : Int), ln, am, rt, cn, dy, tx⟩)) := (BK1.out.below B).all
      have NX : Hid (∀ t, tellS ⟨(k : Int), ln, am, rt, cn, dy, tx⟩ (sl.getD i 0) = some t → t.length ≤ 200000 ∧ LnI ⟨(k : Int), ln, am, rt, cn, dy, tx⟩ sl R (i + 1) (l ++ 32 :: t)) := fun t h => ⟨TT.out _ _ (K6.out i (by omega)) h, I.out.next (by rw [HN.out]; omega) h (TT.out _ _ (K6.out i (by omega)) h)⟩
      have NO : Hid (tellS ⟨(k : Int), ln, am, rt, cn, dy, tx⟩ (sl.getD i 0) = none → R = none) := fun h => I.out.no (by rw [HN.out]; omega) h
      have CL : Hid (Calls Tryz.prog 18 #[opV ⟨(k : Int), ln, am, rt, cn, dy, tx⟩, .int .i64 ((sl.getD i 0 : Nat) : Int)] wr fun e w'' => TellAns (tellS ⟨(k : Int), ln, am, rt, cn, dy, tx⟩ (sl.getD i 0)) e ∧ Below wr.heap.size wr w'') := TL.out _ s6 (K6.out i (by omega)) wr (tab_below KT.out.1 (below_trans B1.out B)) (KT.out.2.later (below_trans B1.out B))
      clear HEL1 cc glt TL SL TT I K6
      generalize sl.getD i 0 = S at *
      go_wp2_with (refine step_load rfl 24 _ rfl w.heap.size 0 rfl (opL ⟨(k : Int), ln, am, rt, cn, dy, tx⟩) _ RG.out Tryz.underlying24 rfl IO ?_)
      refine CL.out.mono ?_
      rintro e w1 ⟨ha, b1⟩
      have B2 := below_trans B b1
      clear CL RG B b1
      cases ht : tellS ⟨(k : Int), ln, am, rt, cn, dy, tx⟩ S with
      | none =>
        rw [ht] at ha
        obtain ⟨t, rfl⟩ := ha
        have RN : Hid (R = none) := NO.out ht
        clear NX NO ht
        go_wp2_with fail
        go_ret2
        exact ⟨by rw [RN.out]; rfl, below_trans B1.out B2⟩
      | some t =>
        rw [ht] at ha
        obtain rfl := ha
        obtain ⟨tl, nx⟩ := NX.out t ht
        have NX1 : Hid (LnI ⟨(k : Int), ln, am, rt, cn, dy, tx⟩ sl R (i + 1) (l ++ 32 :: t)) := nx
        have SA := str_add l t
        have hts := str_size t
        clear NX NO ht nx
        go_wp2_with fail
        go_roundw
        case rel => exact ⟨i + 1, l ++ 32 :: t, by go_num, by omega, by first | rfl | rw [← SA], NX1, B2⟩
        case measure => simp [RowKit.intOf]; omega
    · obtain rfl : i = n := by omega
      have RS := I.out.done HN.out.symm
      have RS1 : Hid (R = some l) := RS
      clear HEL1 TL SL TT I RS K6
      by_cases hl : (100 : Int) < (l.length : Int)
      · have RN : Hid (short R = none) := by show _ = _; rw [RS1.out]; exact if_neg (by omega)
        go_wp2_with fail
        go_ret2
        exact ⟨by rw [RN.out]; rfl, below_trans B1.out B⟩
      · have RN : Hid (short R = some l) := by show _ = _; rw [RS1.out]; exact if_pos (by omega)
        go_wp2_with fail
        go_ret2
        exact ⟨by rw [RN.out]; rfl, below_trans B1.out B⟩
theorem sformat_at (o : Cm) (ho : o.Ok) (ht : o.text.length ≤ 200000) (w : World) (hT : TabW w) (hP : PlnW w) (hC : CmdW w) : Calls Tryz.prog 9 #[opV o] w fun e w' => FmtAns (fmtOp o) e ∧ Below w.heap.size w w' := sformat_atK o ho (fun _ => ht) w hT hP hC
end Go.Proofs.YtkjnklagjhhhkaaGreatDoor
