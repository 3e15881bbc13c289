/-
  Ours: script.Lines.
-/
import Derived.Test.YtkjnklagjhhhkaaScCut
namespace Go.Proofs.Ytkjnklagjhhhkaa
open Go.RowKit

theorem cell_marked (w : World) (u : Value) (ty : TypeId) (m : Nat × Nat) : (w.alloc (.cells #[u] ty m)).cell? ⟨w.heap.size, 0, none⟩ = some u := by
  have h := (MapKept.heap_alloc w (.cells #[u] ty m)).1
  simp only [World.cell?, h]
  rfl
def mLn (vt vm : Value) : Nat := match vt, vm with | .slice _ n _, .bool true => n + 1 | _, _ => 0
/-- New lines. -/
def NewLs (w : World) (ps : List (List Nat)) (e : Ending) (w' : World) : Prop := ∃ a c, e = .returned (.slice a ps.length c) ∧ RowsV w.heap.size w' (.slice a ps.length c) ps ∧ Below w.heap.size w w'

/-- What Cut leaves to do. -/
structure CutS (w : World) (bs t p t' : List Nat) (a1 : Option Addr) (c1 : Nat) (a2 : Option Addr) (c2 : Nat) (m : Bool) : Prop where
  line : RdB w (.slice a1 p.length c1) p
  text : RdB w (.slice a2 t'.length c2) t'
  yes : m = true → ScM.lns t = ScM.keep p ++ ScM.lns t' ∧ t'.length < t.length
  no : m = false → ScM.lns t = ScM.keep p
  drp : ∃ k, t' = bs.drop k
  byt : ∀ b ∈ p, b < 256
  len : p.length ≤ t.length
theorem CutAns.one {w w1 w' : World} {bs t : List Nat} {ao : Option Addr} {cap : Nat} {e : Ending} (h : CutAns t ao cap w1 e w') (hr : RdB w (.slice ao t.length cap) t) (hk : ∃ k, t = bs.drop k) (hb : ∀ b ∈ bs, b < 256) :
    ∃ n p t' a1 c1 a2 c2 m, w' = w1.drewN n ∧ e = .returned (.tuple #[.slice a1 p.length c1, .slice a2 t'.length c2, .bool m]) ∧ CutS w bs t p t' a1 c1 a2 c2 m := by
  obtain ⟨n, hw, h⟩ := h
  obtain ⟨k, hk⟩ := hk
  have ht : ∀ b ∈ t, b < 256 := fun b hb' => hb b (by rw [hk] at hb'; exact List.mem_of_mem_drop hb')
  rcases h with ⟨h1, rfl⟩ | ⟨i, ad, h1, h2, h3, rfl, h4⟩
  · exact ⟨n, t, [], ao, cap, none, 0, false, hw, rfl, hr, ⟨none, 0, rfl, by simp, fun _ => rfl, fun i hi => by simp at hi⟩, (fun e => by cases e), fun _ => ScM.lns_no h1, ⟨bs.length, by simp⟩, ht, Nat.le_refl _⟩
  · have hl : (t.take i).length = i := by rw [List.length_take]; omega
    have hl2 : (t.drop (i + 1)).length = t.length - (i + 1) := List.length_drop ..
    refine ⟨n, t.take i, t.drop (i + 1), ao, cap, ad, cap - (i + 1), true, hw, by rw [hl, hl2], ?_, ?_, fun _ => ⟨ScM.lns_cut h2 h3, by omega⟩, (fun e => by cases e), ⟨k + (i + 1), by rw [hk, List.drop_drop]⟩, fun b hb' => ht b (List.mem_of_mem_take hb'), by omega⟩
    · have := Rd.cut (k := i) hr (by omega)
      rw [← List.map_take] at this
      rw [hl]; exact this
    · rw [hl2]; exact h4 w hr

structure LnI (bs : List Nat) (w : World) (vt vl : Value) (more : Bool) (t : List Nat) (ls : List (List Nat)) (wr : World) : Prop where
  text : RdB w vt t
  rows : RowsV w.heap.size wr vl ls
  drp : ∃ k, t = bs.drop k
  yes : more = true → ls ++ ScM.lns t = ScM.lns bs
  no : more = false → ls = ScM.lns bs
  bel : Below w.heap.size w wr
theorem RowsV.nil (base : Nat) (w : World) : RowsV base w (.slice none 0 0) [] := ⟨[], RowV.nil _ _ _, rfl, (fun _ hx => nomatch hx), List.Pairwise.nil⟩
theorem LnI.begin {bs : List Nat} {w : World} {v : Value} (h : RdB w v bs) : LnI bs w v (.slice none 0 0) true bs [] w := ⟨h, RowsV.nil _ _, ⟨0, rfl⟩, fun _ => by simp, (fun e => by cases e), Below.refl _ _⟩
theorem LnI.cnt {bs t : List Nat} {w wr : World} {vt vl : Value} {m : Bool} {ls : List (List Nat)} (h : LnI bs w vt vl m t ls wr) : ls.length ≤ bs.length := by
  have h1 := ScM.lns_len bs
  cases m with
  | true => have := congrArg List.length (h.yes rfl); simp at this; omega
  | false => rw [h.no rfl]; exact h1
theorem LnI.skip {bs t p t' : List Nat} {w wr w2 : World} {vt vl : Value} {ls : List (List Nat)} {a1 a2 : Option Addr} {c1 c2 : Nat} {m : Bool} (h : LnI bs w vt vl true t ls wr) (c : CutS w bs t p t' a1 c1 a2 c2 m) (hk : ScM.keep p = []) (b : Below wr.heap.size wr w2) : LnI bs w (.slice a2 t'.length c2) vl m t' ls w2 := by
  refine ⟨c.text, h.rows.later b, c.drp, fun e => ?_, fun e => ?_, below_trans h.bel b⟩
  · rw [← h.yes rfl, (c.yes e).1, hk]; rfl
  · rw [← h.yes rfl, c.no e, hk, List.append_nil]
theorem LnI.put {bs t p t' : List Nat} {w wr w2 : World} {vt vl v' : Value} {ls : List (List Nat)} {a1 a2 : Option Addr} {c1 c2 : Nat} {m : Bool} (h : LnI bs w vt vl true t ls wr) (c : CutS w bs t p t' a1 c1 a2 c2 m) (hk : ScM.keep p = [p]) (r : RowsV w.heap.size w2 v' (ls ++ [p])) (b : Below w.heap.size w w2) : LnI bs w (.slice a2 t'.length c2) v' m t' (ls ++ [p]) w2 := by
  refine ⟨c.text, r, c.drp, fun e => ?_, fun e => ?_, b⟩
  · rw [← h.yes rfl, (c.yes e).1, hk, List.append_assoc]
  · rw [← h.yes rfl, c.no e, hk]
/-- A new row more. -/
theorem RowsV.addNew {base : Nat} {w0 w1 : World} {v x : Value} {ps : List (List Nat)} {p : List Nat} (h : RowsV base w0 v ps) (b : Below w0.heap.size w0 w1) (hs : base ≤ w0.heap.size) (hx : RowB 5 w0.heap.size w1 x p) :
    ∃ vs, RowV 22 base w1 v vs ∧ vs.length = ps.length ∧ ∀ w2 v', RowV 22 base w2 v' (vs ++ [x]) → w1.grownBy w2 v.ownBlock → RowsV base w2 v' (ps ++ [p]) := by
  obtain ⟨vs, q1, q2, q3, q4⟩ := h.row
  refine ⟨vs, RowV.later q1 b, q2, fun w2 v' r g => RowsV.push (RowV.later q1 b) q2 (fun y hy => RowV.later (q3 y hy) b) q4 (hx.mono hs) (fun y hy g' hg e => ?_) r g⟩
  obtain ⟨q, hq⟩ := zip_mem q2 hy
  have := (q3 _ hq).block_lt hg
  have := hx.block_ge e
  omega

set_option maxRecDepth 20000 in
set_option maxHeartbeats 4000000 in
theorem lines_at (bs : List Nat) (v : Value) (w : World) (hb : ∀ b ∈ bs, b < 256) (hl : bs.length ≤ 1000000000) (h : RdB w v bs) : Calls Try.prog 5 #[v] w (NewLs w (ScM.lns bs)) := by
  obtain ⟨i0, hi, hz0, hz1, hz2⟩ := info_parts infoS
  have kc := fun (w : World) (C : Array Value) (n c : Nat) => Lib.run_convert_bytes_const (P := Try.prog) w 22 5 C n c Try.underlying22 Try.underlying5
  have HB : Hid (∀ b ∈ bs, b < 256) := hb
  have HL : Hid (bs.length ≤ 1000000000) := hl
  have H0 : Hid (LnI bs w v (.slice none 0 0) true bs [] w) := LnI.begin h
  obtain ⟨ao, cap, rfl, -, -⟩ := h.len
  generalize (bs.map bv).length = L0 at *
  clear h hb hl
  go_enter Try.func5, Try.ntmps5
  go_wp2_with fail
  go_loopw [0, 3, 4] (fun vt vl vm wr => ∃ m t ls, vm = .bool m ∧ Hid (LnI bs w vt vl m t ls wr)) (fun vt _ vm _ => mLn vt vm)
  case atStart => exact ⟨true, bs, [], rfl, H0⟩
  case round =>
    clear H0
    obtain ⟨m, t, ls, rfl, I⟩ := hrel
    cases m with
    | false =>
      obtain ⟨a, c, e, -⟩ := I.out.rows.rd.len
      subst e
      have FIN : Hid (NewLs w (ScM.lns bs) (.returned (.slice a ls.length c)) wr) := ⟨a, c, by rw [I.out.no rfl], by rw [← I.out.no rfl]; exact I.out.rows, I.out.bel⟩
      clear I
      go_wp2_with fail
      go_ret
      exact FIN.out
    | true =>
      obtain ⟨ta, tc, et, -, -⟩ := I.out.text.len
      rw [List.length_map] at et
      subst et
      have B1 := below_alloc wr (.cells #[.int .u8 10] 5 (1, 2))
      have TL : t.length ≤ 1000000000 := by obtain ⟨k, hk⟩ := I.out.drp; have := HL.out; rw [hk, List.length_drop]; omega
      have TB : ∀ b ∈ t, b < 256 := fun b hb' => by obtain ⟨k, hk⟩ := I.out.drp; rw [hk] at hb'; exact HB.out b (List.mem_of_mem_drop hb')
      have CT : Hid (Calls Try.prog 8 #[.slice ta t.length tc, .slice (some ⟨wr.heap.size, 0, none⟩) 1 1] (wr.alloc (.cells #[.int .u8 10] 5 (1, 2))) (CutAns t ta tc (wr.alloc (.cells #[.int .u8 10] 5 (1, 2))))) :=
        cut1_at t ta tc _ _ TB TL (Rd.later I.out.text (below_trans I.out.bel B1)) (cell_marked _ _ _ _)
      have CS : Hid (∀ e w', CutAns t ta tc (wr.alloc (.cells #[.int .u8 10] 5 (1, 2))) e w' → ∃ p t' a1 c1 a2 c2 m, Below wr.heap.size wr w' ∧ e = .returned (.tuple #[.slice a1 p.length c1, .slice a2 t'.length c2, .bool m]) ∧ CutS w bs t p t' a1 c1 a2 c2 m) := fun e w' hA => by
        obtain ⟨n, p, t', a1, c1, a2, c2, m, hw, he, hS⟩ := hA.one I.out.text I.out.drp HB.out
        exact ⟨p, t', a1, c1, a2, c2, m, by rw [hw]; exact below_drewN B1 n, he, hS⟩
      have CNT : Hid (ls.length ≤ 1000000000) := Nat.le_trans I.out.cnt HL.out
      have HS : Hid (w.heap.size ≤ wr.heap.size) := I.out.bel.size
      have ML : Hid (∀ (p t' : List Nat) a1 c1 a2 c2 m, CutS w bs t p t' a1 c1 a2 c2 m → mLn (.slice a2 t'.length c2) (.bool m) < mLn (.slice ta t.length tc) (.bool true)) := fun p t' a1 c1 a2 c2 m hS => by
        cases m with
        | true => have := (hS.yes rfl).2; simp only [mLn]; omega
        | false => simp only [mLn]; omega
      clear B1 TL TB
      go_wp2_with fail
      refine CT.out.mono ?_
      intro e w2 hA
      obtain ⟨p, t', a1, c1, a2, c2, m, B2, rfl, hS⟩ := CS.out e w2 hA
      have S : Hid (CutS w bs t p t' a1 c1 a2 c2 m) := hS
      have MLx : Hid (mLn (.slice a2 t'.length c2) (.bool m) < mLn (.slice ta t.length tc) (.bool true)) := ML.out p t' a1 c1 a2 c2 m hS
      clear CT CS ML hA hS
      by_cases hp : p.length = 0
      · have NX : Hid (LnI bs w (.slice a2 t'.length c2) u3 m t' ls w2) := I.out.skip S.out (by unfold ScM.keep; rw [if_pos hp]) B2
        have d0 : ¬ (0 : Int) < (p.length : Int) := by omega
        clear S I B2
        generalize p.length = P at *
        generalize t'.length = T' at *
        go_wp2_with fail
        go_roundw
        case rel => exact ⟨m, t', ls, rfl, NX⟩
        case measure => exact MLx.out
      · have d0 : (0 : Int) < (p.length : Int) := by omega
        obtain ⟨-, pc, PC⟩ := RdB.cell S.out.line
        obtain ⟨g, o, ea, glt, cc⟩ := PC 0 (by omega)
        have hc0 : p.getD 0 0 < 256 := by rw [List.getD_eq_getElem?_getD, List.getElem?_eq_getElem (by omega)]; exact S.out.byt _ (List.getElem_mem _)
        have B3 := below_alloc w2 (.cells #[.int .u8 35] 5 (1, 2))
        have BW2 := below_trans I.out.bel B2
        have HP : Hid (Calls Try.prog 9 #[.slice a1 p.length c1, .slice (some ⟨w2.heap.size, 0, none⟩) 1 1] (w2.alloc (.cells #[.int .u8 35] 5 (1, 2))) fun e w' => e = .returned (.bool (decide (p.getD 0 0 = 35))) ∧ w' = w2.alloc (.cells #[.int .u8 35] 5 (1, 2))) :=
          prefix1_at (p.getD 0 0) 35 a1 p.length c1 w2.heap.size _ hc0 (by decide) (by omega) pc g o ea (((below_trans BW2 B3).cell (p := ⟨g, o, none⟩) glt).trans (by simpa using cc)) (cell_marked _ _ _ _)
        have B4 := below_trans B2 B3
        clear PC cc ea glt pc B3
        by_cases h35 : p.getD 0 0 = 35
        · have NX : Hid (LnI bs w (.slice a2 t'.length c2) u3 m t' ls (w2.alloc (.cells #[.int .u8 35] 5 (1, 2)))) := I.out.skip S.out (by unfold ScM.keep; rw [if_neg hp, if_pos h35]) B4
          rw [decide_eq_true h35] at HP
          clear S I B4 B2 BW2 hc0
          generalize p.length = P at *
          generalize t'.length = T' at *
          go_wp2_with fail
          refine HP.out.mono ?_
          rintro e w3 ⟨rfl, hw⟩; rw [hw]; clear hw w3
          go_wp2_with fail
          go_roundw
          case rel => exact ⟨m, t', ls, rfl, NX⟩
          case measure => exact MLx.out
        · rw [decide_eq_false h35] at HP
          have PLN : Hid (p.length ≤ 1000000000000) := by
            show _ ≤ _
            have h1 := S.out.len
            obtain ⟨k, hk⟩ := I.out.drp
            have h2 := HL.out
            have h3 : t.length ≤ bs.length := by rw [hk, List.length_drop]; omega
            omega
          have CL : Hid (Calls Try.prog 10 #[.slice a1 p.length c1] (w2.alloc (.cells #[.int .u8 35] 5 (1, 2))) (NewB (w2.alloc (.cells #[.int .u8 35] 5 (1, 2))) p)) := clone_at p _ _ (PLN.out) (Rd.later S.out.line (below_trans I.out.bel B4))
          have RW : Hid (RowsV w.heap.size (w2.alloc (.cells #[.int .u8 35] 5 (1, 2))) u3 ls) := I.out.rows.later B4
          have BW : Hid (Below w.heap.size w (w2.alloc (.cells #[.int .u8 35] 5 (1, 2)))) := below_trans I.out.bel B4
          have NX : Hid (∀ w2 v', RowsV w.heap.size w2 v' (ls ++ [p]) → Below w.heap.size w w2 → LnI bs w (.slice a2 t'.length c2) v' m t' (ls ++ [p]) w2) := fun w2 v' r b => I.out.put S.out (by unfold ScM.keep; rw [if_neg hp, if_neg h35]) r b
          clear S I B4 B2 BW2 hc0
          obtain ⟨P, hP⟩ : ∃ P, p.length = P := ⟨_, rfl⟩
          rw [hP] at HP CL d0 ⊢
          clear hP hp
          generalize t'.length = T' at *
          go_wp2_with fail
          refine HP.out.mono ?_
          rintro e w3 ⟨rfl, hw⟩; rw [hw]; clear hw w3
          generalize w2.alloc (.cells #[.int .u8 35] 5 (1, 2)) = w3 at *
          go_wp2_with fail
          refine CL.out.mono ?_
          rintro e w4 ⟨v1, rfl, r1, b1⟩
          have hsw := BW.out.size
          obtain ⟨vs, own1, hvl, PUSH⟩ := RW.out.addNew b1 hsw r1
          have B5 : Below w.heap.size w w4 := below_trans BW.out b1
          have hs1 := B5.size
          have l1 : vs.length + 1 ≤ maxLen := by have := CNT.out; rw [hvl]; unfold maxLen; omega
          have l2 : (vs.length + 1) * 24 ≤ 140737488355328 := by have := CNT.out; rw [hvl]; omega
          have PU : Hid (∀ w2 v', RowV 22 w.heap.size w2 v' (vs ++ [v1]) → w4.grownBy w2 u3.ownBlock → RowsV w.heap.size w2 v' (ls ++ [p])) := PUSH
          obtain ⟨q2, k2, rfl, -, -⟩ := (RowV.rd r1).len
          generalize (p.map bv).length = P2 at *
          clear r1 b1 CL RW BW HP PUSH hvl
          go_wp2_with (at_builtin; refine wpList_pushV rfl (.tmp 25) (.tmp 28) 24 rfl 22 i0 (.slice none 0 0) 24 underS hi hz0 hz1 hz2 rfl w.heap.size _ _ _ rfl rfl own1 hs1 rfl l1 l2 ?_; intro v' w5 hown' hgr)
          have HR : Hid (RowsV w.heap.size w5 v' (ls ++ [p])) := PU.out w5 v' hown' hgr
          have B6 : Below w.heap.size w w5 := below_grown B5 own1 (Nat.le_refl _) hs1 hgr
          have NX2 : Hid (LnI bs w (.slice a2 T' c2) v' m t' (ls ++ [p]) w5) := NX.out w5 v' HR.out B6
          clear hown' hgr own1 PU NX HR
          go_roundw
          case rel => exact ⟨m, t', ls ++ [p], rfl, NX2⟩
          case measure => exact MLx.out
end Go.Proofs.Ytkjnklagjhhhkaa
