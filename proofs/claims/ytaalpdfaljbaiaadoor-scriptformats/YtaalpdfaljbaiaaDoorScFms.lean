/-
  Ours: the walk of ScriptFormats.
-/
import Derived.Test.YtaalpdfaljbaiaaDoorScRfm
namespace Go.Proofs.YtaalpdfaljbaiaaDoor
open Go.RowKit Go.Lib ScF

theorem bytes_eq (a b : List UInt8) : (({ data := a.toArray } : ByteArray).toList == ({ data := b.toArray } : ByteArray).toList) = decide (a = b) := by
  rw [Bool.eq_iff_iff]
  simp [ByteArray.toList_eq]
set_option maxRecDepth 40000 in
set_option maxHeartbeats 2000000 in
theorem formats_any (o : Cm) (ho : o.Ok) (hm : o.text.length ≤ maxLen) (w : World) (hT : TabW w) (hP : PlnW w) (hC : CmdW w) : Calls Tryd.prog 5 #[opV o] w fun e w' => e = .returned (.bool true) ∧ Below w.heap.size w w' := by
  have b0 := below_alloc w (.cells (opC o) 34)
  have hsz := str_size o.text
  by_cases hl : (200000 : Int) < (o.text.length : Int)
  · clear hT hP hC ho
    unfold maxLen at hm
    obtain ⟨kd, ln, am, rt, cn, dy, tx⟩ := o
    simp only at hl hsz hm
    go_enter Tryd.func5, Tryd.ntmps5
    go_wp2_with fail
    go_ret
    exact ⟨rfl, b0⟩
  have hl' : o.text.length ≤ 200000 := by omega
  have F1 : Hid (Calls Tryd.prog 12 #[opV o] (w.alloc (.cells (opC o) 34)) fun e w' => FmtAns (fmtOp o) e ∧ Below (w.alloc (.cells (opC o) 34)).heap.size (w.alloc (.cells (opC o) 34)) w') := sformat_at o ho hl' _ (tab_below hT b0) (hP.later b0) (hC.later b0)
  have F2 : Hid (∀ w', Below w.heap.size w w' → Calls Tryd.prog 13 #[opV o] w' fun e w'' => FmtAns (fmtOp o) e ∧ Below w'.heap.size w' w'') := fun w' h => rfmt_at o ho hl' w' (tab_below hT h)
  have BK : Hid (Blk w.heap.size 34 (opL o) (w.alloc (.cells (opC o) 34))) := Blk.new 34 (opL o) w
  have IO := infoO o
  clear hT hP hC ho hm
  cases hf : fmtOp o with
  | none =>
    rw [hf] at F1 F2
    clear hf
    obtain ⟨kd, ln, am, rt, cn, dy, tx⟩ := o
    simp only at hl hsz hl'
    go_enter Tryd.func5, Tryd.ntmps5
    go_wp2_with fail
    refine F1.out.mono ?_
    rintro e w1 ⟨rfl, b1⟩
    have RG : Hid (w1.rangeAt w.heap.size 0 (opL ⟨kd, ln, am, rt, cn, dy, tx⟩)) := (BK.out.below b1).all
    have b2 := below_trans b0 b1
    have G2 := F2.out w1 b2
    have G : Hid (Calls Tryd.prog 13 #[opV ⟨kd, ln, am, rt, cn, dy, tx⟩] w1 fun e w'' => FmtAns none e ∧ Below w1.heap.size w1 w'') := G2
    clear F1 F2 BK b0 b1 G2
    go_wp2_with (refine step_load rfl 34 _ rfl w.heap.size 0 rfl (opL ⟨kd, ln, am, rt, cn, dy, tx⟩) _ RG.out Tryd.underlying34 rfl IO ?_)
    refine G.out.mono ?_
    rintro e w2 ⟨rfl, b3⟩
    have b4 := below_trans b2 b3
    go_wp2_with fail
    go_ret
    exact ⟨rfl, b4⟩
  | some l =>
    rw [hf] at F1 F2
    clear hf
    have BE := bytes_eq l l
    rw [decide_eq_true rfl] at BE
    obtain ⟨kd, ln, am, rt, cn, dy, tx⟩ := o
    simp only at hl hsz hl'
    generalize hLL : ({ data := l.toArray } : ByteArray) = LL at BE
    have F1' : Hid (Calls Tryd.prog 12 #[opV ⟨kd, ln, am, rt, cn, dy, tx⟩] (w.alloc (.cells (opC ⟨kd, ln, am, rt, cn, dy, tx⟩) 34)) fun e w' => e = .returned (.tuple #[.string LL, .bool true]) ∧ Below (w.alloc (.cells (opC ⟨kd, ln, am, rt, cn, dy, tx⟩) 34)).heap.size (w.alloc (.cells (opC ⟨kd, ln, am, rt, cn, dy, tx⟩) 34)) w') := by rw [← hLL]; exact F1
    have F2' : Hid (∀ w', Below w.heap.size w w' → Calls Tryd.prog 13 #[opV ⟨kd, ln, am, rt, cn, dy, tx⟩] w' fun e w'' => e = .returned (.tuple #[.string LL, .bool true]) ∧ Below w'.heap.size w' w'') := by rw [← hLL]; exact F2
    clear F1 F2 hLL
    go_enter Tryd.func5, Tryd.ntmps5
    go_wp2_with fail
    refine F1'.out.mono ?_
    rintro e w1 ⟨rfl, b1⟩
    have RG : Hid (w1.rangeAt w.heap.size 0 (opL ⟨kd, ln, am, rt, cn, dy, tx⟩)) := (BK.out.below b1).all
    have b2 := below_trans b0 b1
    have G : Hid (Calls Tryd.prog 13 #[opV ⟨kd, ln, am, rt, cn, dy, tx⟩] w1 fun e w'' => e = .returned (.tuple #[.string LL, .bool true]) ∧ Below w1.heap.size w1 w'') := F2'.out w1 b2
    clear F1' F2' BK b0 b1
    go_wp2_with (refine step_load rfl 34 _ rfl w.heap.size 0 rfl (opL ⟨kd, ln, am, rt, cn, dy, tx⟩) _ RG.out Tryd.underlying34 rfl IO ?_)
    refine G.out.mono ?_
    rintro e w2 ⟨rfl, b3⟩
    have b4 := below_trans b2 b3
    go_wp2_with fail
    go_ret
    exact ⟨rfl, b4⟩
end Go.Proofs.YtaalpdfaljbaiaaDoor
