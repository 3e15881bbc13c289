/-
  Ours: lockbox.readLine.
-/
import Derived.Test.YtnjpmihffenkcaaDoorLbRdl
import Derived.Lib.SlBytesConst
namespace Go.Proofs.YtnjpmihffenkcaaDoor
open Go.RowKit LbM LbF
namespace LbF
theorem drop_at {ws : List Nat} {i W : Nat} (h : ws[i]? = some W) : ws.drop i = W :: ws.drop (i + 1) := by
  obtain ⟨hi, rfl⟩ := List.getElem?_eq_some_iff.1 h
  exact List.drop_eq_getElem_cons hi
/-- What is read of the fields that are left, behind those that were read. -/
def rest (ws : List Nat) (i : Nat) (ns cur : List Nat) : Option (List Nat × List Nat) := (rdFs (ws.drop i) cur).map fun q => (ns ++ q.1, q.2)
theorem rest_start (ws bs : List Nat) : rest ws 0 [] bs = rdFs ws bs := by unfold rest; rw [List.drop_zero]; cases rdFs ws bs <;> rfl
theorem rest_short {ws : List Nat} {i W : Nat} {ns cur : List Nat} (h : ws[i]? = some W) (hl : cur.length < W) : rest ws i ns cur = none := by
  unfold rest
  rw [drop_at h]
  unfold rdFs rdF
  rw [if_neg (by omega)]
  rfl
theorem rest_bad {ws : List Nat} {i W : Nat} {ns cur : List Nat} (h : ws[i]? = some W) (hd : ¬ ∀ c ∈ cur.take W, isDg c) : rest ws i ns cur = none := by
  unfold rest
  rw [drop_at h]
  unfold rdFs rdF
  rw [if_neg (fun q => hd q.2)]
  rfl
theorem rest_next {ws : List Nat} {i W : Nat} {ns cur : List Nat} (h : ws[i]? = some W) (hl : W ≤ cur.length) (hd : ∀ c ∈ cur.take W, isDg c) : rest ws i ns cur = rest ws (i + 1) (ns ++ [numD (cur.take W)]) (cur.drop W) := by
  unfold rest
  rw [drop_at h]
  conv => lhs; unfold rdFs
  unfold rdF
  rw [if_pos ⟨hl, hd⟩]
  show Option.map _ (Option.map _ (rdFs (ws.drop (i + 1)) (cur.drop W))) = _
  cases rdFs (ws.drop (i + 1)) (cur.drop W) <;> simp
theorem rest_end {ws : List Nat} {ns cur : List Nat} : rest ws ws.length ns cur = some (ns, cur) := by
  unfold rest
  rw [List.drop_of_length_le (Nat.le_refl _)]
  simp [rdFs]
theorem rdL_no1 {k : Nat} {bs : List Nat} (h : ¬ bs.head? = some (ltr k)) : rdL k bs = none := by unfold rdL; rw [if_neg h]
theorem rdL_no2 {k : Nat} {bs : List Nat} (h : bs.head? = some (ltr k)) (hr : rdFs (wid k) bs.tail = none) : rdL k bs = none := by unfold rdL; rw [if_pos h, hr]; rfl
theorem rdL_no3 {k : Nat} {bs ns cur : List Nat} (h : bs.head? = some (ltr k)) (hr : rdFs (wid k) bs.tail = some (ns, cur)) (hc : ¬ cur.head? = some 10) : rdL k bs = none := by
  unfold rdL; rw [if_pos h, hr]
  show (if cur.head? = some 10 then some (ns, cur.tail) else none) = none
  rw [if_neg hc]
theorem rdL_yes {k : Nat} {bs ns cur : List Nat} (h : bs.head? = some (ltr k)) (hr : rdFs (wid k) bs.tail = some (ns, cur)) (hc : cur.head? = some 10) : rdL k bs = some (ns, cur.tail) := by
  unfold rdL; rw [if_pos h, hr]
  show (if cur.head? = some 10 then some (ns, cur.tail) else none) = _
  rw [if_pos hc]
end LbF
/-- What readLine answers. -/
def LinAns (k : Nat) (bs : List Nat) (v : Value) (w : World) (e : Ending) (w' : World) : Prop := Below w.heap.size w w' ∧ match rdL k bs with
  | some (ns, r) => ∃ va vr, e = .returned (.tuple #[va, vr, .bool true]) ∧ RowV 2 w.heap.size w' va (nvL ns) ∧ ∀ w0, RdB w0 v bs → RdB w0 vr r
  | none => e = .returned (.tuple #[.slice none 0 0, .slice none 0 0, .bool false])
/-- What stands while the fields of a line are read. -/
def RLs (k : Nat) (bs : List Nat) (v : Value) (w : World) (i : Nat) (vr vn : Value) (wr : World) : Prop :=
  ∃ ns cur : List Nat, rest (wid k) i ns cur = rdFs (wid k) bs.tail ∧ ns.length = i ∧ Below w.heap.size w wr ∧ (∀ w0, RdB w0 v bs → RdB w0 vr cur) ∧ (∀ x ∈ cur, x < 256) ∧ RowV 2 w.heap.size wr vn (nvL ns)
theorem infoL : (Tryd.prog.info? 2).map (fun i => (i.zero, i.size, i.bytes)) = some (some (.int .i64 0), 1, 8) := by kernel_rfl
set_option maxRecDepth 20000 in
set_option maxHeartbeats 8000000 in
theorem readLine_at (k : Nat) (hk : k < 3) (bs : List Nat) (v : Value) (w : World) (hw : FormW w) (hl : bs.length ≤ 1000000) (h : RdB w v bs) (h8 : ∀ x ∈ bs, x < 256) : Calls Tryd.prog 60 #[v, .int .i64 (k : Int)] w (LinAns k bs v w) := by
  obtain ⟨i0, hi, hz0, hz1, hz2⟩ := info_parts infoL
  have BG : Hid (Calls Tryd.prog 62 #[v, .int .i64 (k : Int)] w fun e w' => e = .returned (.bool (decide (bs.head? = some (ltr k)))) ∧ Below w.heap.size w w') := begins_at k hk bs v w hw h h8
  have RDG : Hid (∀ (l : List Nat) (v : Value) (w : World), l.length ≤ 16 → RdB w v l → (∀ c ∈ l, c < 256) → Calls Tryd.prog 74 #[v] w fun e w' => e = .returned (.tuple #[.int .i64 ((if (∀ c ∈ l, isDg c) then numD l else 0 : Nat) : Int), .bool (decide (∀ c ∈ l, isDg c))]) ∧ w = w') := fun l v w h1 h2 h3 => readDigits_at l v w h1 h2 h3
  have CUT : Hid (∀ (a : Option Addr) (n c N : Nat) (bs : List Nat) (w : World), RdB w (.slice a n c) bs → (∀ x ∈ bs, x < 256) → N < w.heap.size → w.cell? ⟨N, 0, none⟩ = some (.int .u8 10) → Calls Tryd.prog 75 #[.slice a n c, .slice (some ⟨N, 0, none⟩) 1 1] w fun e w' => w' = w ∧ ∃ v', e = .returned (.tuple #[v', .bool (decide (bs.head? = some 10))]) ∧ (bs.head? = some 10 → ∀ w0, RdB w0 (.slice a n c) bs → RdB w0 v' bs.tail)) := cut_at
  have FW : Hid (FormW w) := hw
  have W0 : Hid (RdB w v bs ∧ (∀ x ∈ bs, x < 256) ∧ bs.length ≤ 1000000) := ⟨h, h8, hl⟩
  generalize hans : LinAns k bs v w = ANS
  have AN0 : Hid (∀ w', Below w.heap.size w w' → rdL k bs = none → ANS (.returned (.tuple #[.slice none 0 0, .slice none 0 0, .bool false])) w') := fun w' b hn => by
    rw [← hans]
    unfold LinAns
    rw [hn]
    exact ⟨b, rfl⟩
  have AN1 : Hid (∀ w' va vr ns r, Below w.heap.size w w' → rdL k bs = some (ns, r) → RowV 2 w.heap.size w' va (nvL ns) → (∀ w0, RdB w0 v bs → RdB w0 vr r) → ANS (.returned (.tuple #[va, vr, .bool true])) w') := fun w' va vr ns r b hn h1 h2 => by
    rw [← hans]
    unfold LinAns
    rw [hn]
    exact ⟨b, va, vr, rfl, h1, h2⟩
  obtain ⟨a, n, c, rfl⟩ : ∃ a n c, v = .slice a n c := by obtain ⟨a, c, e, _⟩ := h.len; exact ⟨a, _, c, e⟩
  clear h hw hl h8 hans
  go_enter Tryd.func60, Tryd.ntmps60
  go_wp2_with fail
  refine BG.out.mono ?_
  rintro e w1 ⟨rfl, b1⟩
  have B1 : Hid (Below w.heap.size w w1) := b1
  clear b1 BG
  by_cases hh : bs.head? = some (ltr k)
  · rw [decide_eq_true hh]
    have HH : Hid (bs.head? = some (ltr k)) := hh
    have hne : 1 ≤ n := by
      rw [(rdB_cap W0.out.1).1]
      cases bs with
      | nil => cases hh
      | cons x r => simp
    obtain ⟨-, hnc, hno⟩ := rdB_cap W0.out.1
    obtain ⟨AD, hAD, hsl⟩ := slice_from a 1 n c hne hnc hno
    have hsl1 : ∀ W, (Instr.slice 26 (.slice a n c) (some (.int .i64 1)) none none).run Tryd.prog W = .ok (.slice AD (n - 1) (c - 1)) W := fun W => (hsl W).1
    have hsl2 : ∀ W, (Instr.sliceAt 26 (.slice a n c) (some (.int .i64 1)) none none).run Tryd.prog W = .ok (.slice AD (n - 1) (c - 1)) W := fun W => (hsl W).2
    have RT : Hid ((∀ w0, RdB w0 (.slice a n c) bs → RdB w0 (.slice AD (n - 1) (c - 1)) bs.tail) ∧ (∀ x ∈ bs.tail, x < 256) ∧ bs.tail.length ≤ 1000000) := ⟨fun w0 q => by rw [← List.drop_one]; exact rdB_from q hne hAD, fun x hx => W0.out.2.1 x (List.mem_of_mem_tail hx), by rw [List.length_tail]; have := W0.out.2.2; omega⟩
    have FW1 : Hid (∀ w', Below w.heap.size w w' → FormW w') := fun w' q => FW.out.later q
    have c1 := (FW1.out w1 B1.out).wd k hk
    obtain ⟨g, o, cp, c2, hcp, lt, CW⟩ : ∃ g o c, w1.cell? ⟨1, k * 2 + 1, none⟩ = some (.slice (some ⟨g, o, none⟩) (wid k).length c) ∧ (wid k).length ≤ c ∧ g < w.heap.size ∧ ∀ (i x : Nat), (wid k)[i]? = some x → w.cell? ⟨g, o + i, none⟩ = some (.int .i64 (x : Int)) := by
      obtain ⟨g, o, c, h1, h2, h3, h4⟩ := FW.out.sl k hk
      exact ⟨g, o, c, (B1.out.cell (p := ⟨1, k * 2 + 1, none⟩) FW.out.lt).trans h1, h2, h3, h4⟩
    have CE : Hid (∀ w', Below w.heap.size w w' → ∀ (i x : Nat), (wid k)[i]? = some x → w'.cell? ⟨g, o + i, none⟩ = some (.int .i64 (x : Int))) := fun w' q i x hx => (q.cell (p := ⟨g, o + i, none⟩) lt).trans (CW i x hx)
    have hwl := wid_len (k := k)
    obtain ⟨L, hL⟩ : ∃ L, (wid k).length = L := ⟨_, rfl⟩
    have HL : Hid ((wid k).length = L) := hL
    have GI : Hid (∀ i, i < L → ∃ W, (wid k)[i]? = some W ∧ W ≤ 16) := fun i hi => ⟨_, List.getElem?_eq_getElem (by omega), (wid_b (List.getElem?_eq_getElem (by omega))).2⟩
    have RS : Hid (rest (wid k) 0 [] bs.tail = rdFs (wid k) bs.tail) := rest_start _ _
    have RE : Hid (∀ ns cur, rest (wid k) L ns cur = some (ns, cur)) := fun ns cur => by rw [← hL]; exact rest_end
    rw [hL] at c2 hcp hwl
    clear hh hsl hAD hL lt CW hne hnc hno
    generalize n - 1 = n1 at *
    generalize c - 1 = cc1 at *
    go_wp2_with fail
    go_loopw [0, 7, 30] (fun vr vn vk wr => ∃ (i : Nat) (ar an : Option Addr) (nr cr nn cn : Nat), vk = .int .i64 (i : Int) ∧ i ≤ L ∧ vr = .slice ar nr cr ∧ vn = .slice an nn cn ∧ Hid (RLs k bs (.slice a n c) w i (.slice ar nr cr) (.slice an nn cn) wr)) (fun _ _ vk _ => L - (intOf vk).toNat)
    case atStart => exact ⟨0, AD, none, n1, cc1, 0, 0, rfl, by omega, rfl, rfl, [], bs.tail, RS.out, rfl, B1.out, RT.out.1, RT.out.2.1, RowV.nil _ _ _⟩
    case round =>
      obtain ⟨i, ar, an, nr, cr, nn, cn, rfl, hik, rfl, rfl, HR⟩ := hrel
      clear RT c1 c2 RS hsl1 hsl2
      obtain ⟨ns, cur, hrest, hns, bwr, rcur, cur8, rown⟩ := HR.out
      have HX : Hid (rest (wid k) i ns cur = rdFs (wid k) bs.tail ∧ ns.length = i ∧ Below w.heap.size w wr ∧ (∀ w0, RdB w0 (.slice a n c) bs → RdB w0 (.slice ar nr cr) cur) ∧ (∀ x ∈ cur, x < 256) ∧ RowV 2 w.heap.size wr (.slice an nn cn) (nvL ns)) := ⟨hrest, hns, bwr, rcur, cur8, rown⟩
      clear hrest hns bwr rcur cur8 rown HR
      by_cases hlt : (i : Int) < (L : Int)
      · obtain ⟨W, hW, hW16⟩ := GI.out i (by omega)
        have cw := CE.out wr HX.out.2.2.1 i W hW
        obtain ⟨hcl, hnc, hno⟩ := rdB_cap (HX.out.2.2.2.1 w W0.out.1)
        have HCL : Hid (nr = cur.length) := hcl
        have HWW : Hid ((wid k)[i]? = some W) := hW
        clear hW hcl
        by_cases hsh : (nr : Int) < (W : Int)
        · have NO : Hid (rdL k bs = none) := rdL_no2 HH.out (by rw [← HX.out.1]; exact rest_short HWW.out (by rw [← HCL.out]; omega))
          go_wp2_with fail
          go_ret3
          exact AN0.out _ HX.out.2.2.1 NO.out
        · have hWn : W ≤ nr := by omega
          have hsl := slice_to ar W nr cr hWn hnc hno
          have hs1 : ∀ X, (Instr.slice 26 (.slice ar nr cr) none (some (.int .i64 (W : Int))) none).run Tryd.prog X = .ok (.slice ar W cr) X := fun X => (hsl X).1
          have hs2 : ∀ X, (Instr.sliceAt 26 (.slice ar nr cr) none (some (.int .i64 (W : Int))) none).run Tryd.prog X = .ok (.slice ar W cr) X := fun X => (hsl X).2
          obtain ⟨AD2, hAD2, hsf⟩ := slice_from ar W nr cr hWn hnc hno
          have ht1 : ∀ X, (Instr.slice 26 (.slice ar nr cr) (some (.int .i64 (W : Int))) none none).run Tryd.prog X = .ok (.slice AD2 (nr - W) (cr - W)) X := fun X => (hsf X).1
          have ht2 : ∀ X, (Instr.sliceAt 26 (.slice ar nr cr) (some (.int .i64 (W : Int))) none none).run Tryd.prog X = .ok (.slice AD2 (nr - W) (cr - W)) X := fun X => (hsf X).2
          have RC : Hid (RdB w (.slice ar W cr) (cur.take W) ∧ (∀ w0, RdB w0 (.slice a n c) bs → RdB w0 (.slice AD2 (nr - W) (cr - W)) (cur.drop W)) ∧ W ≤ cur.length) := ⟨rdB_to (HX.out.2.2.2.1 w W0.out.1) hWn, fun w0 q => rdB_from (HX.out.2.2.2.1 w0 q) hWn hAD2, by rw [← HCL.out]; exact hWn⟩
          have RDC : Hid (Calls Tryd.prog 74 #[.slice ar W cr] wr fun e w' => e = .returned (.tuple #[.int .i64 ((if (∀ c ∈ cur.take W, isDg c) then numD (cur.take W) else 0 : Nat) : Int), .bool (decide (∀ c ∈ cur.take W, isDg c))]) ∧ wr = w') := RDG.out _ _ wr (by rw [List.length_take]; omega) (Rd.later RC.out.1 HX.out.2.2.1) (fun c hc => HX.out.2.2.2.2.1 c (List.mem_of_mem_take hc))
          clear hsl hsf hAD2
          generalize nr - W = nr2 at *
          generalize cr - W = cr2 at *
          by_cases hd : ∀ c ∈ cur.take W, isDg c
          · have HD : Hid (rest (wid k) (i + 1) (ns ++ [numD (cur.take W)]) (cur.drop W) = rdFs (wid k) bs.tail) := by
              show _ = _
              rw [← HX.out.1]
              exact (rest_next HWW.out RC.out.2.2 hd).symm
            have hnlt := numD_lt _ hd
            have hb16 : (10 : Nat) ^ (cur.take W).length ≤ 10 ^ 16 := Nat.pow_le_pow_right (by omega) (by rw [List.length_take]; omega)
            rw [if_pos hd, decide_eq_true hd] at RDC
            obtain ⟨x, hx⟩ : ∃ x, numD (cur.take W) = x := ⟨_, rfl⟩
            rw [hx] at RDC HD hnlt
            clear hd hx
            have hx63 : (x : Int) < 9223372036854775808 := by omega
            clear hnlt hb16
            go_wp2_with fail
            refine RDC.out.mono ?_
            rintro e w3 ⟨rfl, rfl⟩
            clear RDC
            have own1 : Hid (wr.drew.ownsRow w.heap.size 2 1 (.slice an nn cn) ns.length (nvL ns)) := by
              have := HX.out.2.2.2.2.2
              unfold RowV at this
              rw [List.length_map] at this
              exact this
            have hsz1 : w.heap.size ≤ wr.drew.heap.size := HX.out.2.2.1.size
            have m1 : ns.length + 1 ≤ maxLen := by rw [HX.out.2.1]; unfold maxLen; omega
            have m2 : (ns.length + 1) * 8 ≤ 140737488355328 := by rw [HX.out.2.1]; omega
            go_upto_region 13 with fail
            go_region_held3 (fun _ => True) (first | exact True.intro) (first | (refine op_pushK (wr := wr.drew) rfl (.tmp 47) (.tmp 49) 79 rfl 2 i0 (.int .i64 0) 1 8 Tryd.underlying79 hi hz0 hz1 hz2 rfl (by decide) w.heap.size (.slice an nn cn) ns.length (nvL ns) [.int .i64 (x : Int)] rfl (fun u hu => by simp at hu; subst hu; rfl) rfl own1.out hsz1 rfl m1 m2 ?_; intro a5 n5 c5 w5 r5 g5))
            have g6 : wr.grownBy w5 (Value.slice an nn cn).ownBlock := ⟨g5.os, g5.tape, g5.output, g5.size, g5.block⟩
            have b5 : Below w.heap.size w w5 := below_grown HX.out.2.2.1 HX.out.2.2.2.2.2 (Nat.le_refl _) hsz1 g6
            have hn5 : n5 = (ns ++ [x]).length := by
              rcases r5.2 with ⟨e, h0⟩ | ⟨g', cap', cur', e, _⟩
              · omega
              · injection e with _ e _
                rw [e, List.length_append, List.length_singleton]
            have r6 : RowV 2 w.heap.size w5 (.slice a5 n5 c5) (nvL (ns ++ [x])) := by
              rw [RowV, List.length_map, ← hn5]
              have e9 : nvL (ns ++ [x]) = nvL ns ++ [.int .i64 (x : Int)] := by simp [nvL, iv]
              rw [e9]
              have := r5
              rw [show ns.length + 1 = n5 by rw [hn5, List.length_append, List.length_singleton]] at this
              exact this
            have R5 : Hid (RLs k bs (.slice a n c) w (i + 1) (.slice AD2 nr2 cr2) (.slice a5 n5 c5) w5) := ⟨ns ++ [x], cur.drop W, HD.out, by rw [List.length_append, HX.out.2.1]; rfl, b5, RC.out.2.1, fun c hc => HX.out.2.2.2.2.1 c (List.mem_of_mem_drop hc), r6⟩
            clear r5 g5 g6 b5 hn5 r6 own1 RC HX hs1 hs2 ht1 ht2 hsz1 m1 m2 cw HD
            go_wp2_with fail
            go_roundw
            case rel => exact ⟨i + 1, AD2, a5, nr2, cr2, n5, c5, by go_num, by omega, rfl, rfl, R5⟩
            case measure => simp [intOf]; omega
          · have NO : Hid (rdL k bs = none) := rdL_no2 HH.out (by rw [← HX.out.1]; exact rest_bad HWW.out hd)
            rw [decide_eq_false hd] at RDC
            generalize (if (∀ c ∈ cur.take W, isDg c) then numD (cur.take W) else 0) = x at *
            clear hd
            go_wp2_with fail
            refine RDC.out.mono ?_
            rintro e w3 ⟨rfl, rfl⟩
            clear RDC
            go_wp2_with fail
            go_ret3
            exact AN0.out _ HX.out.2.2.1 NO.out
      · obtain rfl : i = L := by omega
        have HF : Hid (rdFs (wid k) bs.tail = some (ns, cur)) := by show _ = _; rw [← HX.out.1]; exact RE.out ns cur
        have bal := below_alloc wr (.cells #[.int .u8 10] 5 (1, 2))
        have S9 : Hid (RdB (wr.alloc (.cells #[.int .u8 10] 5 (1, 2))) (.slice ar nr cr) cur ∧ (∀ x ∈ cur, x < 256) ∧ wr.heap.size < (wr.alloc (.cells #[.int .u8 10] 5 (1, 2))).heap.size ∧ (wr.alloc (.cells #[.int .u8 10] 5 (1, 2))).cell? ⟨wr.heap.size, 0, none⟩ = some (.int .u8 10) ∧ Below w.heap.size w (wr.alloc (.cells #[.int .u8 10] 5 (1, 2))) ∧ RowV 2 w.heap.size (wr.alloc (.cells #[.int .u8 10] 5 (1, 2))) (.slice an nn cn) (nvL ns)) := ⟨Rd.later (HX.out.2.2.2.1 w W0.out.1) (below_trans HX.out.2.2.1 bal), HX.out.2.2.2.2.1, by simp, by rw [World.cell?_alloc_mark]; rfl, below_trans HX.out.2.2.1 bal, RowV.later HX.out.2.2.2.2.2 bal⟩
        have hcv := fun (w : World) (C : Array Value) (n c : Nat) => Lib.run_convert_bytes_const (P := Tryd.prog) w 26 5 C n c Tryd.underlying26 Tryd.underlying5
        have RW : Hid (∀ w0, RdB w0 (.slice a n c) bs → RdB w0 (.slice ar nr cr) cur) := HX.out.2.2.2.1
        clear HX bal
        go_wp2_with fail
        refine (CUT.out ar nr cr wr.heap.size cur _ S9.out.1 S9.out.2.1 S9.out.2.2.1 S9.out.2.2.2.1).mono ?_
        rintro e w3 ⟨rfl, v', rfl, hcut⟩
        by_cases hc : cur.head? = some 10
        · rw [decide_eq_true hc]
          have HR : Hid (rdL k bs = some (ns, cur.tail) ∧ ∀ w0, RdB w0 (.slice a n c) bs → RdB w0 v' cur.tail) := ⟨rdL_yes HH.out HF.out hc, fun w0 q => hcut hc w0 (RW.out w0 q)⟩
          clear hc hcut
          go_wp2_with fail
          go_ret3
          exact AN1.out _ _ _ _ _ S9.out.2.2.2.2.1 HR.out.1 S9.out.2.2.2.2.2 HR.out.2
        · rw [decide_eq_false hc]
          have NO : Hid (rdL k bs = none) := rdL_no3 HH.out HF.out hc
          clear hc hcut
          go_wp2_with fail
          go_ret3
          exact AN0.out _ S9.out.2.2.2.2.1 NO.out
  · rw [decide_eq_false hh]
    have NO : Hid (rdL k bs = none) := rdL_no1 hh
    clear hh
    go_wp2_with fail
    go_ret3
    exact AN0.out _ B1.out NO.out
end Go.Proofs.YtnjpmihffenkcaaDoor
