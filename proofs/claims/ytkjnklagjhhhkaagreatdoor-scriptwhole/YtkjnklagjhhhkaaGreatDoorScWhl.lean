/-
  Ours: the walk of ScriptWhole (gen_scwhl.py).
-/
import Derived.Test.YtkjnklagjhhhkaaGreatDoorScWhM
import Derived.Test.YtkjnklagjhhhkaaGreatDoorScWhO
import Derived.Test.YtkjnklagjhhhkaaGreatDoorScLw3
import Derived.Test.YtkjnklagjhhhkaaGreatDoorScPsh
import Derived.Test.YtkjnklagjhhhkaaGreatDoorScEq
import Derived.Deep.CutRange
import Derived.Deep.RegionHeld3
namespace Go.Proofs.YtkjnklagjhhhkaaGreatDoor
open Go.RowKit Go.Lib ScF

theorem underT : Tryz.prog.underlying 9 = some .string := by kernel_rfl
theorem infoQ : (Tryz.prog.info? 24).map (fun i => (i.zero, i.size, i.bytes)) = some (some (.agg #[.int .i64 0, .int .i64 0, .int .i64 0, .int .i64 0, .int .i64 0, .int .i64 0, .string .empty]), 7, 64) := by kernel_rfl
/-- What stands while the text is written. -/
structure WI (w : World) (os : List Cm) (i : Nat) (vw vt : Value) (t : List Nat) (wr : World) : Prop where
  row : RowQ w.heap.size wr vw (wants (os.take i))
  txt : RowB 5 w.heap.size wr vt t
  ok : TextOk t (linesW (os.take i))
  byt : ∀ b ∈ t, b < 256
  bel : Below w.heap.size w wr
theorem WI.len {w wr : World} {os : List Cm} {i n6 c6 : Nat} {vw : Value} {a6 : Option Addr} {t : List Nat} (h : WI w os i vw (.slice a6 n6 c6) t wr) : n6 = t.length := by
  obtain ⟨a, c, e, _⟩ := (RowV.rd h.txt).len
  injection e with _ e _
  rw [e, List.length_map]
theorem WI.strew {w wr w' : World} {os : List Cm} {i : Nat} {vw vt v' : Value} {t : List Nat} (h : WI w os i vw vt t wr) (r : RowV 5 w.heap.size w' v' (t.map bv ++ remark.map bv)) (g : wr.grownBy w' vt.ownBlock) : ∃ a7 n7 c7, v' = .slice a7 n7 c7 ∧ WI w os i vw (.slice a7 n7 c7) (t ++ remark) w' := by
  obtain ⟨a, c, e, _⟩ := (RowV.rd r).len
  subst e
  refine ⟨a, _, c, rfl, own_grown h.row g (fun x hx e => own_apart h.row h.txt (by decide) x hx e), by rw [RowB, List.map_append]; exact r, h.ok.strew, fun b hb => ?_, own_below h.bel h.txt g⟩
  rcases List.mem_append.1 hb with hb | hb
  · exact h.byt b hb
  · exact (by decide : ∀ b ∈ remark, b < 256) b hb
theorem WI.skip {w wr w' : World} {os : List Cm} {i : Nat} {vw vt : Value} {t : List Nat} {o : Cm} (h : WI w os i vw vt t wr) (ho : os[i]? = some o) (hs : spk o = false) (b : Below wr.heap.size wr w') : WI w os (i + 1) vw vt t w' := by
  have e : os.take (i + 1) = os.take i ++ [o] := by rw [List.take_add_one, ho]; rfl
  refine ⟨?_, RowV.later h.txt b, ?_, h.byt, below_trans h.bel b⟩
  · rw [e, wants_no hs]; exact own_later h.row b
  · rw [e, lines_no hs]; exact h.ok
theorem WI.add {w w1 w2 w3 : World} {os : List Cm} {i : Nat} {vw vt vw' v1 v2 : Value} {t : List Nat} {o : Cm} {l : List UInt8} (h : WI w os i vw vt t w1) (ho : os[i]? = some o) (hs : spk o = true) (hl : fmtOp o = some l)
    (rq : w2.ownsRow w.heap.size 24 7 vw' ((wants (os.take i)).length + 1) ((wants (os.take i)).flatMap opL ++ opL (bareC o))) (gq : w1.grownBy w2 vw.ownBlock)
    (r1 : RowV 5 w.heap.size w3 v1 (t.map bv ++ (l.map (·.toNat)).map bv)) (g1 : w2.grownBy w3 vt.ownBlock) :
    RowQ w.heap.size w3 vw' (wants (os.take (i + 1))) ∧ Below w.heap.size w w3 ∧ ∀ w4, RowV 5 w.heap.size w4 v2 (t.map bv ++ (l.map (·.toNat)).map bv ++ [bv 10]) → w3.grownBy w4 v1.ownBlock → ∃ b6 m6 d6, v2 = .slice b6 m6 d6 ∧ WI w os (i + 1) vw' (.slice b6 m6 d6) (t ++ l.map (·.toNat) ++ [10]) w4 := by
  have e : os.take (i + 1) = os.take i ++ [o] := by rw [List.take_add_one, ho]; rfl
  obtain ⟨f1, f2, f3⟩ := fmt_line hl
  have t2 : RowB 5 w.heap.size w2 vt t := RowV.kept h.txt gq (fun x hx q => own_apart h.txt h.row (by decide) x hx q)
  have b2 : Below w.heap.size w w2 := own_below h.bel h.row gq
  have rq3 : RowQ w.heap.size w3 vw' (wants (os.take (i + 1))) := by
    rw [e, wants_yes hs]
    have := own_grown rq g1 (fun x hx q => own_apart rq t2 (by decide) x hx q)
    rw [RowQ, List.length_append, List.flatMap_append]
    simpa using this
  have b3 : Below w.heap.size w w3 := own_below b2 t2 g1
  refine ⟨rq3, b3, fun w4 r4 g4 => ?_⟩
  obtain ⟨a, c, q, _⟩ := (RowV.rd r4).len
  subst q
  refine ⟨a, _, c, rfl, own_grown rq3 g4 (fun x hx q => own_apart rq3 r1 (by decide) x hx q), by rw [RowB, List.map_append, List.map_append]; exact r4, ?_, fun b hb => ?_, own_below b3 r1 g4⟩
  · rw [e, lines_yes hs hl]; exact h.ok.line f1 f2
  · rcases List.mem_append.1 hb with hb | hb
    · rcases List.mem_append.1 hb with hb | hb
      · exact h.byt b hb
      · obtain ⟨x, _, rfl⟩ := List.mem_map.1 hb
        exact x.toNat_lt
    · simp at hb; omega

set_option maxRecDepth 40000 in
set_option maxHeartbeats 8000000 in
theorem whole_any (os : List Cm) (ks : List Int) (a : Option Addr) (n c : Nat) (a2 : Option Addr) (m c2 : Nat) (w : World) (hok : ∀ o ∈ os, o.Ok ∧ o.text.length ≤ maxLen) (hn : os.length = n) (hm : ks.length = m) (hQ : RdQ w (.slice a n c) os) (hS : Rd w (.slice a2 m c2) (ks.map (Value.int .i64))) (hW : PWs w) :
    Calls Tryz.prog 5 #[.slice a n c, .slice a2 m c2] w fun e w' => e = .returned (.bool true) ∧ Below w.heap.size w w' := by
  obtain ⟨i0, hi0, hz0, hz1, hz2⟩ := info_parts infoB
  obtain ⟨iq, hiq, hq0, hq1, hq2⟩ := info_parts infoQ
  by_cases h1 : (400 : Int) < (n : Int)
  · clear hQ hS hW hok hn hm
    go_enter Tryz.func5, Tryz.ntmps5
    go_wp2_with fail
    go_ret
    exact ⟨rfl, Below.refl _ _⟩
  by_cases h2 : (400 : Int) < (m : Int)
  · clear hQ hS hW hok hn hm
    go_enter Tryz.func5, Tryz.ntmps5
    go_wp2_with fail
    go_ret
    exact ⟨rfl, Below.refl _ _⟩
  have hn4 : n ≤ 400 := by omega
  have hm4 : m ≤ 400 := by omega
  have HN : Hid (os.length = n) := hn
  have HQ : Hid (RdQ w (.slice a n c) os) := hQ
  have KS : Hid (∀ k, k < m → ∀ w', Below w.heap.size w w' → ∃ g o, a2 = some ⟨g, o, none⟩ ∧ g < w'.heap.size ∧ w'.cell? ⟨g, o + k, none⟩ = some (.int .i64 (ks.getD k 0))) := fun k hk w' b => by
    obtain ⟨ao, cp, e, _, _, H⟩ := hS
    injection e with e1 e2 e3
    subst e1
    obtain ⟨g, o, e1, lt, hc⟩ := H k (by rw [List.length_map, hm]; exact hk)
    refine ⟨g, o, e1, Nat.lt_of_lt_of_le lt b.size, ((b.cell (p := ⟨g, o + k, none⟩) lt).trans hc).trans ?_⟩
    rw [List.getElem_map, List.getD_eq_getElem?_getD, List.getElem?_eq_getElem (by omega)]
    rfl
  have SPK : Hid (∀ o ∈ os, ∀ w', Calls Tryz.prog 10 #[opV o] w' fun e w'' => e = .returned (.bool (spk o)) ∧ Below w'.heap.size w' w'') := fun o ho w' => speak_at o (by have := (hok o ho).2; unfold maxLen at this; omega) w'
  have FMT : Hid (∀ o ∈ os, spk o = true → ∃ l, fmtOp o = some l ∧ l.length ≤ 100 ∧ ∀ w', Below w.heap.size w w' → Calls Tryz.prog 9 #[opV o] w' fun e w'' => e = .returned (.tuple #[.string ⟨l.toArray⟩, .bool true]) ∧ Below w'.heap.size w' w'') := fun o ho hs => by
    obtain ⟨l, hl⟩ := spk_some o (hok o ho).1 hs
    refine ⟨l, hl, (fmt_line hl).2.2, fun w' b => ?_⟩
    have := sformat_atK o (hok o ho).1 (fun k10 => ?_) w' (hW.later b).tab (hW.later b).pln (hW.later b).cmd
    · rw [hl] at this; exact this
    · unfold spk restB plainB at hs
      rw [Bool.and_eq_true, if_neg (by omega), if_pos k10] at hs
      have h3 := hs.2
      simp only [Bool.and_eq_true, decide_eq_true_eq] at h3
      omega
  have BAR : Hid (∀ o ∈ os, spk o = true → ∀ w', Calls Tryz.prog 11 #[opV o] w' fun e w'' => e = .returned (opV (bareC o)) ∧ Below w'.heap.size w' w'') := fun o ho hs w' => by
    obtain ⟨l, hl⟩ := spk_some o (hok o ho).1 hs
    obtain ⟨k1, k21⟩ := fmt_kind hl
    exact bare_at o k1 k21 w'
  have PRS : Hid (∀ i, i < (wants os).length → ∀ ad k cp w', Below w.heap.size w w' → RdB w' (.slice ad k cp) ((linesW os).getD i []) → Calls Tryz.prog 7 #[.slice ad k cp] w' fun e w'' => e = .returned (.tuple #[opV ((wants os).getD i cm0), .int .i64 0, .int .i64 0]) ∧ Below w'.heap.size w' w'') := fun i hi ad k cp w' b r => by
    obtain ⟨l, e1, e2, e3⟩ := wants_at os (fun o ho => (hok o ho).1) i hi
    rw [e1] at r
    have := parse_at l ad k cp w' (by rw [bytes_nat]; exact r) (by unfold maxLen; omega) (hW.later b)
    rw [e2] at this
    exact this
  have EQ : Hid (∀ (o : Cm) (w' : World), Calls Tryz.prog 8 #[opV o, opV o] w' fun e w'' => e = .returned (.bool true) ∧ Below w'.heap.size w' w'') := fun o w' => equal_yes o o rfl w'
  have I0 : Hid (WI w os 0 (.slice none 0 0) (.slice none 0 0) [] w) := ⟨RowQ.nil _ _, RowV.nil _ _ _, TextOk.nil, (fun _ h => nomatch h), Below.refl _ _⟩
  clear hQ hS hW hok hn hm
  go_enter Tryz.func5, Tryz.ntmps5
  go_wp2_with fail
  go_loopw [5, 6, 7, 8, 9, 10] (fun v5 v6 v7 _ _ _ wr => ∃ (i : Nat) (t : List Nat), ∃ a5 n5 c5 a6 n6 c6, v7 = .int .i64 (i : Int) ∧ i ≤ n ∧ v5 = .slice a5 n5 c5 ∧ v6 = .slice a6 n6 c6 ∧ t.length ≤ i * 5000 ∧ Hid (WI w os i (.slice a5 n5 c5) (.slice a6 n6 c6) t wr)) (fun _ _ v7 _ _ _ _ => n - (RowKit.intOf v7).toNat)
  case atStart => exact ⟨0, [], none, 0, 0, none, 0, 0, rfl, by omega, rfl, rfl, by simp, I0⟩
  case round =>
    clear I0
    obtain ⟨i, t, a5, n5, c5, a6, n6, c6, rfl, hi, rfl, rfl, ht, I⟩ := hrel
    by_cases hlt : (i : Int) < (n : Int)
    · obtain ⟨o, ho⟩ : ∃ o, os[i]? = some o := ⟨os[i]'(by rw [HN.out]; omega), List.getElem?_eq_getElem _⟩
      have hmem := List.mem_of_getElem? ho
      obtain ⟨g, off, rfl, glt, rg⟩ := RdQ.at HQ.out I.out.bel ho
      have RG : Hid (∀ w', Below wr.heap.size wr w' → w'.rangeAt g (off + i * 7) (opL o)) := fun w' b => by
        obtain ⟨g', off', e, _, r⟩ := RdQ.at HQ.out (below_trans I.out.bel b) ho
        injection e with e
        injection e with e1 e2
        subst e1 e2
        exact r
      have SP : Hid (∀ w', Calls Tryz.prog 10 #[opV o] w' fun e w'' => e = .returned (.bool (spk o)) ∧ Below w'.heap.size w' w'') := SPK.out o hmem
      have IO := infoO o
      cases hs : spk o with
      | false =>
        rw [hs] at SP
        have SK : Hid (∀ w', Below wr.heap.size wr w' → WI w os (i + 1) (.slice a5 n5 c5) (.slice a6 n6 c6) t w') := fun w' b => I.out.skip ho hs b
        have rg0 : Hid (wr.rangeAt g (off + i * 7) (opL o)) := rg
        clear hs ho hmem RG rg I SPK FMT BAR PRS EQ
        obtain ⟨kd, ln, am, rt, cn, dy, tx⟩ := o
        go_wp2_with (refine step_load rfl 24 _ rfl g (off + i * 7) rfl (opL ⟨kd, ln, am, rt, cn, dy, tx⟩) _ rg0.out Tryz.underlying24 rfl IO ?_)
        refine (SP.out _).mono ?_
        rintro e w1 ⟨rfl, b1⟩
        have IJ : Hid (WI w os (i + 1) (.slice a5 n5 c5) (.slice a6 n6 c6) t w1) := SK.out w1 b1
        clear SK SP rg0 b1
        obtain ⟨T1, hT1⟩ : ∃ T1, t = T1 := ⟨_, rfl⟩
        rw [hT1] at IJ ht
        clear hT1
        obtain ⟨b5, e5⟩ : ∃ b5, a5 = b5 := ⟨_, rfl⟩
        obtain ⟨m5, f5⟩ : ∃ m5, n5 = m5 := ⟨_, rfl⟩
        obtain ⟨d5, g5⟩ : ∃ d5, c5 = d5 := ⟨_, rfl⟩
        subst e5 f5 g5
        go_wp2_with fail
        go_loopw [6, 10] (fun v6 v10 wr2 => ∃ (k : Nat) (t : List Nat), ∃ a6 n6 c6, v10 = .int .i64 (k : Int) ∧ k ≤ m ∧ v6 = .slice a6 n6 c6 ∧ t.length ≤ i * 5000 + 101 + k * 11 ∧ Hid (WI w os (i + 1) (.slice a5 n5 c5) (.slice a6 n6 c6) t wr2)) (fun _ v10 _ => m - (RowKit.intOf v10).toNat)
        case atStart => exact ⟨0, T1, _, _, _, rfl, by omega, rfl, by omega, IJ⟩
        case round =>
          clear IJ
          obtain ⟨k, t2, a6, n6, c6, rfl, hk, rfl, ht2, J⟩ := hrel
          by_cases hlk : (k : Int) < (m : Int)
          · obtain ⟨g2, o2, rfl, lt2, cc⟩ := KS.out k (by omega) wr J.out.bel
            have NX : Hid (∀ v' w', RowV 5 w.heap.size w' v' (t2.map bv ++ remark.map bv) → wr.grownBy w' (Value.slice a6 n6 c6).ownBlock → ∃ a7 n7 c7, v' = .slice a7 n7 c7 ∧ WI w os (i + 1) (.slice a5 n5 c5) (.slice a7 n7 c7) (t2 ++ remark) w') := fun v' w' r g => J.out.strew r g
            have ow := J.out.txt
            have hsz := J.out.bel.size
            have IJ2 : Hid (WI w os (i + 1) (.slice a5 n5 c5) (.slice a6 n6 c6) t2 wr) := J
            have rl : remark.length = 11 := rfl
            have l1 : (t2.map bv).length + (⟨#[10, 35, 32, 100, 97, 121, 32, 55, 10, 35, 10]⟩ : ByteArray).size ≤ maxLen := by rw [List.length_map]; unfold maxLen; show _ + 11 ≤ _; omega
            have l2 : (t2.map bv).length + (⟨#[10, 35, 32, 100, 97, 121, 32, 55, 10, 35, 10]⟩ : ByteArray).size ≤ 140737488355328 := by rw [List.length_map]; show _ + 11 ≤ _; omega
            clear J KS
            generalize ks.getD k 0 = z at *
            by_cases hz : z = (i : Int)
            · have d : (z == (i : Int)) = true := by rw [hz]; exact beq_self_eq_true _
              clear hz IJ2
              go_wp2_with (at_builtin; refine wpList_append_own_string _ rfl (.tmp 71) (.const (.string ⟨#[10, 35, 32, 100, 97, 121, 32, 55, 10, 35, 10]⟩)) 22 9 rfl w.heap.size 5 i0 underB underT hi0 hz0 hz1 hz2 _ _ _ rfl ow ⟨#[10, 35, 32, 100, 97, 121, 32, 55, 10, 35, 10]⟩ rfl l1 l2 hsz ?_; intro v7 w7 r7 g7 _)
              obtain ⟨a7, n7, c7, rfl, I7⟩ := NX.out v7 w7 (by have e := r7; rw [RowV, List.length_append]; exact e) g7
              have I8 : Hid (WI w os (i + 1) (.slice a5 n5 c5) (.slice a7 n7 c7) (t2 ++ remark) w7) := I7
              clear NX r7 g7 I7 ow
              go_wp2_with fail
              go_roundw
              case rel => exact ⟨k + 1, t2 ++ remark, a7, n7, c7, by go_num, by omega, rfl, by rw [List.length_append, rl]; omega, I8⟩
              case measure => simp [RowKit.intOf]; omega
            · have d : (z == (i : Int)) = false := beq_eq_false_iff_ne.2 hz
              clear hz NX ow l1 l2
              go_wp2_with fail
              go_roundw
              case rel => exact ⟨k + 1, t2, a6, n6, c6, by go_num, by omega, rfl, by omega, IJ2⟩
              case measure => simp [RowKit.intOf]; omega
          · have hkm : k = m := by omega
            clear KS
            go_wp2_with fail
            go_roundw
            case rel => exact ⟨i + 1, t2, a5, n5, c5, a6, n6, c6, by go_num, by omega, rfl, rfl, by omega, J⟩
            case measure => simp [RowKit.intOf]; omega
      | true =>
        rw [hs] at SP
        obtain ⟨l, hl, hl100, fm⟩ := FMT.out o hmem hs
        have FM : Hid (∀ w', Below w.heap.size w w' → Calls Tryz.prog 9 #[opV o] w' fun e w'' => e = .returned (.tuple #[.string ⟨l.toArray⟩, .bool true]) ∧ Below w'.heap.size w' w'') := fm
        have BR : Hid (∀ w', Calls Tryz.prog 11 #[opV o] w' fun e w'' => e = .returned (opV (bareC o)) ∧ Below w'.heap.size w' w'') := BAR.out o hmem hs
        have nq : (wants (os.take i)).length ≤ 400 := by have := (wants_len (os.take i)).2; have h3 := List.length_take_le i os; omega
        have II : Hid (∀ w1, Below wr.heap.size wr w1 → w1.ownsRow w.heap.size 24 7 (.slice a5 n5 c5) (wants (os.take i)).length ((wants (os.take i)).flatMap opL) ∧ Below w.heap.size w w1 ∧ ∀ w2 w3 vw' v1, w2.ownsRow w.heap.size 24 7 vw' ((wants (os.take i)).length + 1) ((wants (os.take i)).flatMap opL ++ opL (bareC o)) → w1.grownBy w2 (Value.slice a5 n5 c5).ownBlock → RowV 5 w.heap.size w3 v1 (t.map bv ++ (l.map (·.toNat)).map bv) → w2.grownBy w3 (Value.slice a6 n6 c6).ownBlock → Below w.heap.size w w3 ∧ ∀ w4 v2, RowV 5 w.heap.size w4 v2 (t.map bv ++ (l.map (·.toNat)).map bv ++ [bv 10]) → w3.grownBy w4 v1.ownBlock → ∃ b6 m6 d6, v2 = .slice b6 m6 d6 ∧ WI w os (i + 1) vw' (.slice b6 m6 d6) (t ++ l.map (·.toNat) ++ [10]) w4) := fun w1 b => by
          have h := I.out
          have h' : WI w os i (.slice a5 n5 c5) (.slice a6 n6 c6) t w1 := ⟨own_later h.row b, RowV.later h.txt b, h.ok, h.byt, below_trans h.bel b⟩
          refine ⟨h'.row, h'.bel, fun w2 w3 vw' v1 rq gq r1 g1 => ⟨(h'.add (v2 := undef) ho hs hl rq gq r1 g1).2.1, fun w4 v2 r4 g4 => (h'.add (v2 := v2) ho hs hl rq gq r1 g1).2.2 w4 r4 g4⟩⟩
        have TX : Hid (∀ w1 w2, Below wr.heap.size wr w1 → w1.grownBy w2 (Value.slice a5 n5 c5).ownBlock → RowB 5 w.heap.size w2 (.slice a6 n6 c6) t ∧ w.heap.size ≤ w2.heap.size) := fun w1 w2 b gq => by
          have h := I.out
          have r1 : RowB 5 w.heap.size w1 (.slice a6 n6 c6) t := RowV.later h.txt b
          have q1 := own_later h.row b
          exact ⟨RowV.kept r1 gq (fun x hx q => own_apart r1 q1 (by decide) x hx q), Nat.le_trans (below_trans h.bel b).size gq.size⟩
        have BW : Hid (Below w.heap.size w wr) := I.out.bel
        have rg0 : Hid (wr.rangeAt g (off + i * 7) (opL o)) := rg
        have hls := str_size l
        have ll1 : Hid (t.length + l.length + 1 ≤ 2100101) := by show _ ≤ _; omega
        clear hs ho hmem rg I SPK FMT BAR PRS EQ fm hl
        generalize (wants (os.take i)).length = NQ at *
        generalize (wants (os.take i)).flatMap opL = VS at *
        generalize bareC o = Q at *
        obtain ⟨qk, ql, qa, qr, qc, qd, qt⟩ := Q
        obtain ⟨kd, ln, am, rt, cn, dy, tx⟩ := o
        go_wp2_with (refine step_load rfl 24 _ rfl g (off + i * 7) rfl (opL ⟨kd, ln, am, rt, cn, dy, tx⟩) _ rg0.out Tryz.underlying24 rfl IO ?_)
        refine (SP.out _).mono ?_
        rintro e w1 ⟨rfl, b1⟩
        have rg1 : Hid (w1.rangeAt g (off + i * 7) (opL ⟨kd, ln, am, rt, cn, dy, tx⟩)) := RG.out w1 b1
        have lt1 : g < w1.heap.size := Nat.lt_of_lt_of_le glt b1.size
        clear SP rg0 glt
        go_wp2_with (refine step_load rfl 24 _ rfl g (off + i * 7) rfl (opL ⟨kd, ln, am, rt, cn, dy, tx⟩) _ rg1.out Tryz.underlying24 rfl IO ?_)
        refine (FM.out _ (below_trans BW.out b1)).mono ?_
        rintro e w2 ⟨rfl, b2'⟩
        have b2 : Below wr.heap.size wr w2 := below_trans b1 b2'
        have rg2 : Hid (w2.rangeAt g (off + i * 7) (opL ⟨kd, ln, am, rt, cn, dy, tx⟩)) := RG.out w2 b2
        have lt2 : g < w2.heap.size := Nat.lt_of_lt_of_le lt1 b2'.size
        clear FM rg1 lt1 b1 b2'
        go_wp2_with (refine step_load rfl 24 _ rfl g (off + i * 7) rfl (opL ⟨kd, ln, am, rt, cn, dy, tx⟩) _ rg2.out Tryz.underlying24 rfl IO ?_)
        refine (BR.out _).mono ?_
        rintro e w3 ⟨rfl, b3'⟩
        have b3 : Below wr.heap.size wr w3 := below_trans b2 b3'
        obtain ⟨q3, B3, ADD⟩ := II.out w3 b3
        have AD : Hid (∀ w2 w3_1 vw' v1, w2.ownsRow w.heap.size 24 7 vw' (NQ + 1) (VS ++ opL ⟨qk, ql, qa, qr, qc, qd, qt⟩) → w3.grownBy w2 (Value.slice a5 n5 c5).ownBlock → RowV 5 w.heap.size w3_1 v1 (t.map bv ++ (l.map (·.toNat)).map bv) → w2.grownBy w3_1 (Value.slice a6 n6 c6).ownBlock → Below w.heap.size w w3_1 ∧ ∀ w4 v2, RowV 5 w.heap.size w4 v2 (t.map bv ++ (l.map (·.toNat)).map bv ++ [bv 10]) → w3_1.grownBy w4 v1.ownBlock → ∃ b6 m6 d6, v2 = .slice b6 m6 d6 ∧ WI w os (i + 1) vw' (.slice b6 m6 d6) (t ++ l.map (·.toNat) ++ [10]) w4) := ADD
        have TX3 : Hid (∀ w2, w3.grownBy w2 (Value.slice a5 n5 c5).ownBlock → RowB 5 w.heap.size w2 (.slice a6 n6 c6) t ∧ w.heap.size ≤ w2.heap.size) := fun w2 gq => TX.out w3 w2 b3 gq
        have hs3 : w.heap.size ≤ w3.heap.size := B3.size
        have on1 : ∀ u ∈ opL ⟨qk, ql, qa, qr, qc, qd, qt⟩, u.oneCell' = true := by intro u hu; simp only [opL, List.mem_cons, List.not_mem_nil, or_false] at hu; rcases hu with rfl | rfl | rfl | rfl | rfl | rfl | rfl <;> rfl
        have k1 : NQ + 1 ≤ maxLen := by unfold maxLen; omega
        have k2 : (NQ + 1) * 64 ≤ 140737488355328 := by omega
        clear BR rg2 lt2 b2 b3' b3 II TX ADD RG BW B3
        go_upto_region 13 with (at_builtin; refine wpList_pushR rfl (.tmp 45) (.tmp 51) 34 rfl 24 iq (.agg #[.int .i64 0, .int .i64 0, .int .i64 0, .int .i64 0, .int .i64 0, .int .i64 0, .string .empty]) 7 64 Tryz.underlying34 hiq hq0 hq1 hq2 rfl (by decide) w.heap.size (.slice a5 n5 c5) NQ VS (opL ⟨qk, ql, qa, qr, qc, qd, qt⟩) rfl on1 rfl q3 hs3 rfl k1 k2 ?_; intro b5 m5 d5 w4 r4 g4 _)
        obtain ⟨ow4, hs4⟩ := TX3.out w4 g4
        have j1 : (t.map bv).length + (⟨l.toArray⟩ : ByteArray).size ≤ maxLen := by rw [List.length_map, hls]; have := ll1.out; unfold maxLen; omega
        have j2 : (t.map bv).length + (⟨l.toArray⟩ : ByteArray).size ≤ 140737488355328 := by rw [List.length_map, hls]; have := ll1.out; omega
        clear TX3 q3 on1 k1 k2
        go_upto_region 14 with (at_builtin; refine wpList_append_own_string _ rfl (.tmp 53) (.tmp 54) 22 9 rfl w.heap.size 5 i0 underB underT hi0 hz0 hz1 hz2 _ _ _ rfl ow4 ⟨l.toArray⟩ rfl j1 j2 hs4 ?_; intro v5 w5 r5 g5 _)
        have e5 : strCells ⟨l.toArray⟩ = (l.map (·.toNat)).map bv := by simp [strCells, bv]
        have r5' : RowV 5 w.heap.size w5 v5 (t.map bv ++ (l.map (·.toNat)).map bv) := by
          have q := r5
          rw [e5, List.length_map, hls] at q
          rw [RowV, List.length_append, List.length_map, List.length_map, List.length_map]
          exact q
        obtain ⟨B5, NX⟩ := AD.out w4 w5 _ v5 r4 g4 r5' g5
        have NX5 : Hid (∀ w4 v2, RowV 5 w.heap.size w4 v2 (t.map bv ++ (l.map (·.toNat)).map bv ++ [bv 10]) → w5.grownBy w4 v5.ownBlock → ∃ b6 m6 d6, v2 = .slice b6 m6 d6 ∧ WI w os (i + 1) (.slice b5 m5 d5) (.slice b6 m6 d6) (t ++ l.map (·.toNat) ++ [10]) w4) := NX
        have hs5 := B5.size
        have p1 : (t.map bv ++ (l.map (·.toNat)).map bv).length + 1 ≤ maxLen := by rw [List.length_append, List.length_map, List.length_map, List.length_map]; have := ll1.out; unfold maxLen; omega
        have p2 : ((t.map bv ++ (l.map (·.toNat)).map bv).length + 1) * 1 ≤ 140737488355328 := by rw [List.length_append, List.length_map, List.length_map, List.length_map]; have := ll1.out; omega
        clear AD NX r4 g4 r5 g5 ow4 hs4 hs3 j1 j2 e5 B5
        go_upto_region 15 with (at_builtin; refine wpList_pushV rfl (.tmp 56) (.tmp 57) 22 rfl 5 i0 (.int .u8 0) 1 underB hi0 hz0 hz1 hz2 rfl w.heap.size _ _ _ rfl rfl r5' hs5 rfl p1 p2 ?_; intro v6 w6 r6 g6)
        obtain ⟨a6', n6', c6', rfl, I6⟩ := NX5.out w6 v6 r6 g6
        have hT1 : (t ++ l.map (fun x : UInt8 => x.toNat) ++ [10]).length ≤ i * 5000 + 101 := by rw [List.length_append, List.length_append, List.length_map]; show _ + _ + 1 ≤ _; omega
        have IJ0 : Hid (WI w os (i + 1) (.slice b5 m5 d5) (.slice a6' n6' c6') (t ++ l.map (·.toNat) ++ [10]) w6) := I6
        clear NX5 r6 g6 I6 r5' p1 p2 hs5 ht
        obtain ⟨T1, eT⟩ : ∃ T1, t ++ l.map (fun x : UInt8 => x.toNat) ++ [10] = T1 := ⟨_, rfl⟩
        rw [eT] at IJ0 hT1
        have IJ : Hid (WI w os (i + 1) (.slice b5 m5 d5) (.slice a6' n6' c6') T1 w6) := IJ0
        clear IJ0 eT hls ll1
        go_wp2_with fail
        go_loopw [6, 10] (fun v6 v10 wr2 => ∃ (k : Nat) (t : List Nat), ∃ a6 n6 c6, v10 = .int .i64 (k : Int) ∧ k ≤ m ∧ v6 = .slice a6 n6 c6 ∧ t.length ≤ i * 5000 + 101 + k * 11 ∧ Hid (WI w os (i + 1) (.slice b5 m5 d5) (.slice a6 n6 c6) t wr2)) (fun _ v10 _ => m - (RowKit.intOf v10).toNat)
        case atStart => exact ⟨0, T1, _, _, _, rfl, by omega, rfl, by omega, IJ⟩
        case round =>
          clear IJ
          obtain ⟨k, t2, a6, n6, c6, rfl, hk, rfl, ht2, J⟩ := hrel
          by_cases hlk : (k : Int) < (m : Int)
          · obtain ⟨g2, o2, rfl, lt2, cc⟩ := KS.out k (by omega) wr J.out.bel
            have NX : Hid (∀ v' w', RowV 5 w.heap.size w' v' (t2.map bv ++ remark.map bv) → wr.grownBy w' (Value.slice a6 n6 c6).ownBlock → ∃ a7 n7 c7, v' = .slice a7 n7 c7 ∧ WI w os (i + 1) (.slice b5 m5 d5) (.slice a7 n7 c7) (t2 ++ remark) w') := fun v' w' r g => J.out.strew r g
            have ow := J.out.txt
            have hsz := J.out.bel.size
            have IJ2 : Hid (WI w os (i + 1) (.slice b5 m5 d5) (.slice a6 n6 c6) t2 wr) := J
            have rl : remark.length = 11 := rfl
            have l1 : (t2.map bv).length + (⟨#[10, 35, 32, 100, 97, 121, 32, 55, 10, 35, 10]⟩ : ByteArray).size ≤ maxLen := by rw [List.length_map]; unfold maxLen; show _ + 11 ≤ _; omega
            have l2 : (t2.map bv).length + (⟨#[10, 35, 32, 100, 97, 121, 32, 55, 10, 35, 10]⟩ : ByteArray).size ≤ 140737488355328 := by rw [List.length_map]; show _ + 11 ≤ _; omega
            clear J KS
            generalize ks.getD k 0 = z at *
            by_cases hz : z = (i : Int)
            · have d : (z == (i : Int)) = true := by rw [hz]; exact beq_self_eq_true _
              clear hz IJ2
              go_wp2_with (at_builtin; refine wpList_append_own_string _ rfl (.tmp 71) (.const (.string ⟨#[10, 35, 32, 100, 97, 121, 32, 55, 10, 35, 10]⟩)) 22 9 rfl w.heap.size 5 i0 underB underT hi0 hz0 hz1 hz2 _ _ _ rfl ow ⟨#[10, 35, 32, 100, 97, 121, 32, 55, 10, 35, 10]⟩ rfl l1 l2 hsz ?_; intro v7 w7 r7 g7 _)
              obtain ⟨a7, n7, c7, rfl, I7⟩ := NX.out v7 w7 (by have e := r7; rw [RowV, List.length_append]; exact e) g7
              have I8 : Hid (WI w os (i + 1) (.slice b5 m5 d5) (.slice a7 n7 c7) (t2 ++ remark) w7) := I7
              clear NX r7 g7 I7 ow
              go_wp2_with fail
              go_roundw
              case rel => exact ⟨k + 1, t2 ++ remark, a7, n7, c7, by go_num, by omega, rfl, by rw [List.length_append, rl]; omega, I8⟩
              case measure => simp [RowKit.intOf]; omega
            · have d : (z == (i : Int)) = false := beq_eq_false_iff_ne.2 hz
              clear hz NX ow l1 l2
              go_wp2_with fail
              go_roundw
              case rel => exact ⟨k + 1, t2, a6, n6, c6, by go_num, by omega, rfl, by omega, IJ2⟩
              case measure => simp [RowKit.intOf]; omega
          · have hkm : k = m := by omega
            clear KS
            go_wp2_with fail
            go_roundw
            case rel => exact ⟨i + 1, t2, b5, m5, d5, a6, n6, c6, by go_num, by omega, rfl, rfl, by omega, J⟩
            case measure => simp [RowKit.intOf]; omega
    · obtain rfl : i = n := by omega
      have ea : os.take i = os := by rw [← HN.out, List.take_length]
      have h := I.out
      rw [show WI w os i = WI w os i from rfl] at h
      have hlen := (wants_len os).1
      obtain ⟨N, hN⟩ : ∃ N, (wants os).length = N := ⟨_, rfl⟩
      have hN4 : N ≤ 400 := by have := (wants_len os).2; have := HN.out; omega
      have hL : ScM.lns t = linesW os := by have := h.ok.all; rwa [ea] at this
      obtain ⟨q5, e5⟩ : ∃ q5, n5 = q5 := ⟨_, rfl⟩
      have hq := h.row
      rw [ea] at hq
      have hn5 : n5 = N := by
        obtain ⟨a', c', e⟩ := hq.len
        injection e with _ e _
        rw [e, hN]
      subst hn5
      have RQ : Hid (RowQ w.heap.size wr (.slice a5 n5 c5) (wants os)) := hq
      have BW : Hid (Below w.heap.size w wr) := h.bel
      have LNS : Hid (Calls Tryz.prog 12 #[.slice a6 n6 c6] wr fun e w' => ∃ la lc, e = .returned (.slice la n5 lc) ∧ RdR w' (.slice la n5 lc) (linesW os) ∧ Below wr.heap.size wr w') := (lines_at t _ wr h.byt (by omega) (RowV.rd h.txt)).mono fun e w' ⟨la, lc, e1, r, b⟩ => by
        rw [hL] at e1 r
        rw [← hlen, hN] at e1 r
        exact ⟨la, lc, e1, r.rd, b⟩
      have HNN : Hid ((wants os).length = n5) := hN
      clear h ea hL hlen hN hq e5 I SPK FMT BAR KS HQ
      go_wp2_with fail
      refine LNS.out.mono ?_
      rintro e wL ⟨la, lc, rfl, rl, bL⟩
      have RL : Hid (RdR wL (.slice la n5 lc) (linesW os)) := rl
      have RQL : Hid (RowQ w.heap.size wL (.slice a5 n5 c5) (wants os)) := own_later RQ.out bL
      have BL : Hid (Below w.heap.size w wL) := below_trans BW.out bL
      clear LNS rl bL RQ BW
      go_wp2_with fail
      go_loopw [12, 13, 14, 15] (fun v12 _ _ _ wz => ∃ j : Nat, v12 = .int .i64 (j : Int) ∧ j ≤ n5 ∧ Hid (Below wL.heap.size wL wz)) (fun v12 _ _ _ _ => n5 - (RowKit.intOf v12).toNat)
      case atStart => exact ⟨0, rfl, by omega, Below.refl _ _⟩
      case round =>
        obtain ⟨j, rfl, hj, BZ⟩ := hrel
        by_cases hlj : (j : Int) < (n5 : Int)
        · obtain ⟨x, hx⟩ : ∃ x, (wants os)[j]? = some x := ⟨(wants os)[j]'(by rw [HNN.out]; omega), List.getElem?_eq_getElem _⟩
          have hxd : (wants os).getD j cm0 = x := by rw [List.getD_eq_getElem?_getD, hx]; rfl
          obtain ⟨gl, ol, al, cl, rfl, cel, rdl⟩ := (RdR.at (RL.out.later BZ.out)).2.2 j (by omega)
          have glL : gl < wr.heap.size := World.block_lt_of_cell? _ _ cel
          have PR : Hid (Calls Tryz.prog 7 #[.slice al ((linesW os).getD j []).length cl] wr fun e w'' => e = .returned (.tuple #[opV x, .int .i64 0, .int .i64 0]) ∧ Below wr.heap.size wr w'') := by
            have := PRS.out j (by rw [HNN.out]; omega) al _ cl wr (below_trans BL.out BZ.out) rdl
            rw [hxd] at this
            exact this
          obtain ⟨gq, cq, eq, gql, rq⟩ := (show RowQ w.heap.size wr (.slice a5 n5 c5) (wants os) from own_later RQL.out BZ.out).at hx
          injection eq with eq1 eq2 eq3
          subst eq1
          have RQ : Hid (∀ w', Below wr.heap.size wr w' → w'.rangeAt gq (j * 7) (opL x)) := fun w' b k u hu => (b.cell (p := ⟨gq, j * 7 + k, none⟩) gql).trans (rq k u hu)
          have EQx : Hid (∀ w', Calls Tryz.prog 8 #[opV x, opV x] w' fun e w'' => e = .returned (.bool true) ∧ Below w'.heap.size w' w'') := EQ.out x
          clear PRS EQ rdl hxd hx rq RL RQL eq2 eq3 HNN
          generalize ((linesW os).getD j []).length = LN at *
          obtain ⟨qk, ql, qa, qr, qc, qd, qt⟩ := x
          go_wp2_with fail
          refine PR.out.mono ?_
          rintro e w5 ⟨rfl, b5⟩
          have bA := below_alloc w5 (.cells (opC ⟨qk, ql, qa, qr, qc, qd, qt⟩) 24)
          have rqA := RQ.out _ (below_trans b5 bA)
          have BQ6 : Hid (Blk w5.heap.size 24 (opL ⟨qk, ql, qa, qr, qc, qd, qt⟩) (w5.alloc (.cells (opC ⟨qk, ql, qa, qr, qc, qd, qt⟩) 24))) := Blk.new 24 (opL ⟨qk, ql, qa, qr, qc, qd, qt⟩) w5
          have RQ6 : Hid ((w5.alloc (.cells (opC ⟨qk, ql, qa, qr, qc, qd, qt⟩) 24)).rangeAt gq (j * 7) (opL ⟨qk, ql, qa, qr, qc, qd, qt⟩)) := rqA
          have B6 : Hid (Below wL.heap.size wL (w5.alloc (.cells (opC ⟨qk, ql, qa, qr, qc, qd, qt⟩) 24))) := below_trans BZ.out (below_trans b5 bA)
          have L6 : Hid (gq < (w5.alloc (.cells (opC ⟨qk, ql, qa, qr, qc, qd, qt⟩) 24)).heap.size) := Nat.lt_of_lt_of_le gql (below_trans b5 bA).size
          clear PR RQ b5 bA rqA BZ cel glL gql
          go_upto_region 27 with fail
          generalize hW6 : w5.alloc (.cells #[.int .i64 qk, .int .i64 ql, .int .i64 qa, .int .i64 qr, .int .i64 qc, .int .i64 qd, .string ⟨qt.toArray⟩] 24) = W6
          have BQ7 : Hid (Blk w5.heap.size 24 (opL ⟨qk, ql, qa, qr, qc, qd, qt⟩) W6) := by rw [← hW6]; exact BQ6
          have RQ7 : Hid (W6.rangeAt gq (j * 7) (opL ⟨qk, ql, qa, qr, qc, qd, qt⟩)) := by rw [← hW6]; exact RQ6
          have B7 : Hid (Below wL.heap.size wL W6) := by rw [← hW6]; exact B6
          have L7 : Hid (gq < W6.heap.size) := by rw [← hW6]; exact L6
          clear BQ6 RQ6 B6 L6 hW6
          generalize w5.heap.size = D at *
          have LT : Hid (D < W6.heap.size) := BQ7.out.lt
          have ST : Hid (Below W6.heap.size W6 W6.drew ∧ W6.drew.cell? ⟨D, 0, none⟩ = some (.int .i64 qk) ∧ W6.drew.cell? ⟨D, 1, none⟩ = some (.int .i64 ql) ∧ W6.drew.cell? ⟨D, 2, none⟩ = some (.int .i64 qa) ∧ W6.drew.cell? ⟨D, 3, none⟩ = some (.int .i64 qr) ∧ W6.drew.cell? ⟨D, 4, none⟩ = some (.int .i64 qc) ∧ W6.drew.cell? ⟨D, 5, none⟩ = some (.int .i64 qd) ∧ W6.drew.cell? ⟨D, 6, none⟩ = some (.string ⟨qt.toArray⟩) ∧ W6.drew.cell? ⟨gq, j * 7, none⟩ = some (.int .i64 qk) ∧ W6.drew.cell? ⟨gq, j * 7 + 1, none⟩ = some (.int .i64 ql) ∧ W6.drew.cell? ⟨gq, j * 7 + 2, none⟩ = some (.int .i64 qa) ∧ W6.drew.cell? ⟨gq, j * 7 + 3, none⟩ = some (.int .i64 qr) ∧ W6.drew.cell? ⟨gq, j * 7 + 4, none⟩ = some (.int .i64 qc) ∧ W6.drew.cell? ⟨gq, j * 7 + 5, none⟩ = some (.int .i64 qd) ∧ W6.drew.cell? ⟨gq, j * 7 + 6, none⟩ = some (.string ⟨qt.toArray⟩)) := by
            have h1 := BQ7.out
            have h5 := RQ7.out
            exact ⟨Below.drew (Below.refl _ _), h1.cell 0 _ rfl, h1.cell 1 _ rfl, h1.cell 2 _ rfl, h1.cell 3 _ rfl, h1.cell 4 _ rfl, h1.cell 5 _ rfl, h1.cell 6 _ rfl, h5 0 _ rfl, h5 1 _ rfl, h5 2 _ rfl, h5 3 _ rfl, h5 4 _ rfl, h5 5 _ rfl, h5 6 _ rfl⟩
          have HK : Hid (∀ {x y : World}, (Below W6.heap.size W6 x ∧ x.cell? ⟨D, 0, none⟩ = some (.int .i64 qk) ∧ x.cell? ⟨D, 1, none⟩ = some (.int .i64 ql) ∧ x.cell? ⟨D, 2, none⟩ = some (.int .i64 qa) ∧ x.cell? ⟨D, 3, none⟩ = some (.int .i64 qr) ∧ x.cell? ⟨D, 4, none⟩ = some (.int .i64 qc) ∧ x.cell? ⟨D, 5, none⟩ = some (.int .i64 qd) ∧ x.cell? ⟨D, 6, none⟩ = some (.string ⟨qt.toArray⟩) ∧ x.cell? ⟨gq, j * 7, none⟩ = some (.int .i64 qk) ∧ x.cell? ⟨gq, j * 7 + 1, none⟩ = some (.int .i64 ql) ∧ x.cell? ⟨gq, j * 7 + 2, none⟩ = some (.int .i64 qa) ∧ x.cell? ⟨gq, j * 7 + 3, none⟩ = some (.int .i64 qr) ∧ x.cell? ⟨gq, j * 7 + 4, none⟩ = some (.int .i64 qc) ∧ x.cell? ⟨gq, j * 7 + 5, none⟩ = some (.int .i64 qd) ∧ x.cell? ⟨gq, j * 7 + 6, none⟩ = some (.string ⟨qt.toArray⟩)) → Below x.heap.size x y → (Below W6.heap.size W6 y ∧ y.cell? ⟨D, 0, none⟩ = some (.int .i64 qk) ∧ y.cell? ⟨D, 1, none⟩ = some (.int .i64 ql) ∧ y.cell? ⟨D, 2, none⟩ = some (.int .i64 qa) ∧ y.cell? ⟨D, 3, none⟩ = some (.int .i64 qr) ∧ y.cell? ⟨D, 4, none⟩ = some (.int .i64 qc) ∧ y.cell? ⟨D, 5, none⟩ = some (.int .i64 qd) ∧ y.cell? ⟨D, 6, none⟩ = some (.string ⟨qt.toArray⟩) ∧ y.cell? ⟨gq, j * 7, none⟩ = some (.int .i64 qk) ∧ y.cell? ⟨gq, j * 7 + 1, none⟩ = some (.int .i64 ql) ∧ y.cell? ⟨gq, j * 7 + 2, none⟩ = some (.int .i64 qa) ∧ y.cell? ⟨gq, j * 7 + 3, none⟩ = some (.int .i64 qr) ∧ y.cell? ⟨gq, j * 7 + 4, none⟩ = some (.int .i64 qc) ∧ y.cell? ⟨gq, j * 7 + 5, none⟩ = some (.int .i64 qd) ∧ y.cell? ⟨gq, j * 7 + 6, none⟩ = some (.string ⟨qt.toArray⟩))) := fun {x y} h kk => by
            have lt1 : D < x.heap.size := Nat.lt_of_lt_of_le LT.out h.1.size
            have lt5 : gq < x.heap.size := Nat.lt_of_lt_of_le L7.out h.1.size
            have c1 : ∀ o, y.cell? ⟨D, o, none⟩ = x.cell? ⟨D, o, none⟩ := fun o => kk.cell (p := ⟨D, o, none⟩) lt1
            have c5 : ∀ o, y.cell? ⟨gq, o, none⟩ = x.cell? ⟨gq, o, none⟩ := fun o => kk.cell (p := ⟨gq, o, none⟩) lt5
            simp only [c1, c5]
            exact ⟨below_trans h.1 kk, h.2⟩
          clear BQ7 RQ7
          go_region_held3 (fun w' => Below W6.heap.size W6 w' ∧ w'.cell? ⟨D, 0, none⟩ = some (.int .i64 qk) ∧ w'.cell? ⟨D, 1, none⟩ = some (.int .i64 ql) ∧ w'.cell? ⟨D, 2, none⟩ = some (.int .i64 qa) ∧ w'.cell? ⟨D, 3, none⟩ = some (.int .i64 qr) ∧ w'.cell? ⟨D, 4, none⟩ = some (.int .i64 qc) ∧ w'.cell? ⟨D, 5, none⟩ = some (.int .i64 qd) ∧ w'.cell? ⟨D, 6, none⟩ = some (.string ⟨qt.toArray⟩) ∧ w'.cell? ⟨gq, j * 7, none⟩ = some (.int .i64 qk) ∧ w'.cell? ⟨gq, j * 7 + 1, none⟩ = some (.int .i64 ql) ∧ w'.cell? ⟨gq, j * 7 + 2, none⟩ = some (.int .i64 qa) ∧ w'.cell? ⟨gq, j * 7 + 3, none⟩ = some (.int .i64 qr) ∧ w'.cell? ⟨gq, j * 7 + 4, none⟩ = some (.int .i64 qc) ∧ w'.cell? ⟨gq, j * 7 + 5, none⟩ = some (.int .i64 qd) ∧ w'.cell? ⟨gq, j * 7 + 6, none⟩ = some (.string ⟨qt.toArray⟩)) (first | assumption | exact ST.out | exact HK.out (by assumption) hU) (first | (go_at_call 8; refine (EQx.out _).mono ?_; rintro e w2 ⟨rfl, hU⟩))
          all_goals
            have hh : Below W6.heap.size W6 w2 := And.left (by assumption)
            have B9 : Hid (Below wL.heap.size wL w2) := below_trans B7.out hh
            clear hh
            go_wp2_with fail
            go_roundw
            case rel => exact ⟨j + 1, by go_num, by omega, B9⟩
            case measure => simp [RowKit.intOf]; omega
        · have BF := below_trans BL.out BZ.out
          clear PRS EQ RL RQL
          go_wp2_with fail
          go_ret
          exact ⟨rfl, BF⟩
end Go.Proofs.YtkjnklagjhhhkaaGreatDoor
