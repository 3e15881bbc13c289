/-
  Ours: payments as they read; lockbox.hasFile, totals.
-/
import Derived.Test.YtnjpmihffenkcaaDoorLbTel
import Derived.Deep.QuietTactic
import Derived.BigQuiet
import Derived.Deep.CutRange
namespace Go.Proofs.YtnjpmihffenkcaaDoor
open Go.RowKit LbM LbF
abbrev itL (x : It) : List Value := [.int .i64 x.ln, .int .i64 x.am]
abbrev itZ : List Value := [.int .i64 0, .int .i64 0]
abbrev btL (b : Bt) (v : Value) : List Value := [.int .i64 b.day, .int .i64 b.num, v]
abbrev btV (b : Bt) (v : Value) : Value := .agg #[.int .i64 b.day, .int .i64 b.num, v]
/-- The slice value v reads as these payments. -/
def RdI (w : World) (v : Value) (its : List It) : Prop :=
  ∃ ao cap, v = .slice ao its.length cap ∧ its.length ≤ cap ∧ (ao = none → cap = 0) ∧ ∀ (i : Nat) (x : It), its[i]? = some x → ∃ g o, ao = some ⟨g, o, none⟩ ∧ g < w.heap.size ∧ w.rangeAt g (o + i * 2) (itL x)
theorem range_later {w w' : World} {g o : Nat} {cs : List Value} (h : w.rangeAt g o cs) (hg : g < w.heap.size) (hb : Below w.heap.size w w') : w'.rangeAt g o cs := fun j v hv => (hb.cell (p := ⟨g, o + j, none⟩) hg).trans (h j v hv)
theorem RdI.later {w w' : World} {v : Value} {its : List It} (h : RdI w v its) (hb : Below w.heap.size w w') : RdI w' v its := by
  obtain ⟨ao, cap, rfl, h1, h2, h3⟩ := h
  refine ⟨ao, cap, rfl, h1, h2, fun i x hi => ?_⟩
  obtain ⟨g, o, e, lt, r⟩ := h3 i x hi
  exact ⟨g, o, e, Nat.lt_of_lt_of_le lt hb.size, range_later r lt hb⟩
/-- A later world at which what lies ahead of 'base' is as it was. -/
theorem RdI.tg {base : Nat} {w w' : World} {v : Value} {its : List It} (h : RdI w v its) (hb : Below base w w') (hB : w.heap.size ≤ base) : RdI w' v its := by
  obtain ⟨ao, cap, rfl, h1, h2, h3⟩ := h
  refine ⟨ao, cap, rfl, h1, h2, fun i x hi => ?_⟩
  obtain ⟨g, o, e, lt, r⟩ := h3 i x hi
  exact ⟨g, o, e, Nat.lt_of_lt_of_le lt hb.size, fun j u hj => (hb.cell (p := ⟨g, o + i * 2 + j, none⟩) (Nat.lt_of_lt_of_le lt hB)).trans (r j u hj)⟩
theorem sizeIt (x : It) : (Tryd.prog.info? 43).map (·.size) = some (itL x).length := by show _ = some 2; kernel_rfl
theorem oneIt (x : It) : ∀ v ∈ itL x, v.oneCell' = true := fun v hv => by
  simp [itL] at hv
  rcases hv with rfl | rfl <;> rfl
theorem its_take {its : List It} {i : Nat} {x : It} (h : its[i]? = some x) : its.take (i + 1) = its.take i ++ [x] := by rw [List.take_add_one, h]; rfl
set_option maxRecDepth 20000 in
set_option maxHeartbeats 4000000 in
theorem hasFile_at (b : Bt) (v : Value) (w : World) (hl : b.its.length ≤ 1000000000) (h : RdI w v b.its) : Calls Tryd.prog 20 #[btV b v] w fun e w' => e = .returned (.bool (decide b.Has)) ∧ Below w.heap.size w w' := by
  have UT : Hid (∀ (n m : Int) (w : World), Calls Tryd.prog 32 #[.int .i64 n, .int .i64 m] w fun e w' => e = .returned (.bool (decide (1 ≤ n ∧ n ≤ m))) ∧ w = w') := upTo_at
  have UL : Hid (∀ (n m : Int) (w : World), Calls Tryd.prog 33 #[.int .i64 n, .int .i64 m] w fun e w' => e = .returned (.bool (decide (1 ≤ n ∧ n ≤ m))) ∧ w = w') := upToL_at
  obtain ⟨ao, cap, rfl, hcap, hno, H⟩ := h
  have CE : Hid (∀ w', Below w.heap.size w w' → ∀ (i : Nat) (x : It), b.its[i]? = some x → ∃ g o, ao = some ⟨g, o, none⟩ ∧ w'.rangeAt g (o + i * 2) (itL x)) := fun w' hb i x hi => by
    obtain ⟨g, o, e, lt, r⟩ := H i x hi
    exact ⟨g, o, e, range_later r lt hb⟩
  obtain ⟨its, hits⟩ : ∃ its, b.its = its := ⟨_, rfl⟩
  obtain ⟨L, hL⟩ : ∃ L, its.length = L := ⟨_, rfl⟩
  have HL : Hid (its.length = L) := hL
  have GI : Hid (∀ i, i < L → ∃ x, its[i]? = some x) := fun i hi => ⟨_, List.getElem?_eq_getElem (by omega)⟩
  obtain ⟨day, num, its'⟩ := b
  simp only at hits
  subst hits
  have HB : Hid ((⟨day, num, its'⟩ : Bt).Has ↔ (1 ≤ day ∧ day ≤ 3652059) ∧ (1 ≤ num ∧ num ≤ 999999) ∧ (1 ≤ (L : Int) ∧ (L : Int) ≤ 9999) ∧ ∀ x ∈ its', x.Ok) := by
    unfold Bt.Has
    simp only [hL]
    constructor
    · rintro ⟨a, b, c, d, e, f, g⟩; exact ⟨⟨a, b⟩, ⟨c, d⟩, ⟨by omega, by omega⟩, g⟩
    · rintro ⟨⟨a, b⟩, ⟨c, d⟩, ⟨e, f⟩, g⟩; exact ⟨a, b, c, d, by omega, by omega, g⟩
  obtain ⟨r, hr⟩ : ∃ r, decide (⟨day, num, its'⟩ : Bt).Has = r := ⟨_, rfl⟩
  have RN : Hid (¬ ((1 ≤ day ∧ day ≤ 3652059) ∧ (1 ≤ num ∧ num ≤ 999999) ∧ (1 ≤ (L : Int) ∧ (L : Int) ≤ 9999) ∧ ∀ x ∈ its', x.Ok) → false = r) := fun h => by rw [← hr]; exact (decide_eq_false (fun q => h (HB.out.1 q))).symm
  have RY : Hid (((1 ≤ day ∧ day ≤ 3652059) ∧ (1 ≤ num ∧ num ≤ 999999) ∧ (1 ≤ (L : Int) ∧ (L : Int) ≤ 9999) ∧ ∀ x ∈ its', x.Ok) → true = r) := fun h => by rw [← hr]; exact (decide_eq_true (HB.out.2 h)).symm
  rw [hr]
  clear hr
  simp only [hL] at hl hcap CE
  have NB : Hid (Blk w.heap.size 24 [.int .i64 day, .int .i64 num, .slice ao L cap] (w.alloc (.cells #[.int .i64 day, .int .i64 num, .slice ao L cap] 24))) := Blk.new 24 [.int .i64 day, .int .i64 num, .slice ao L cap] w
  have BA : Hid (Below w.heap.size w (w.alloc (.cells #[.int .i64 day, .int .i64 num, .slice ao L cap] 24))) := below_alloc w _
  clear HB hno H
  simp only [hL]
  go_enter Tryd.func20, Tryd.ntmps20
  go_upto_region 1 with fail
  generalize w.alloc (.cells #[.int .i64 day, .int .i64 num, .slice ao L cap] 24) = w1 at *
  have c0 := NB.out.cell 0 _ rfl
  have c1 := NB.out.cell 1 _ rfl
  have c2 := NB.out.cell 2 _ rfl
  go_wp2_with fail
  refine (UT.out _ _ _).mono ?_
  rintro e w2 ⟨rfl, rfl⟩
  by_cases q1 : 1 ≤ day ∧ day ≤ 3652059
  · rw [decide_eq_true q1]
    go_wp2_with fail
    refine (UT.out _ _ _).mono ?_
    rintro e w2 ⟨rfl, rfl⟩
    by_cases q2 : 1 ≤ num ∧ num ≤ 999999
    · rw [decide_eq_true q2]
      go_wp2_with fail
      refine (UT.out _ _ _).mono ?_
      rintro e w2 ⟨rfl, rfl⟩
      by_cases q3 : 1 ≤ (L : Int) ∧ (L : Int) ≤ 9999
      · rw [decide_eq_true q3]
        have QQ : Hid ((1 ≤ day ∧ day ≤ 3652059) ∧ (1 ≤ num ∧ num ≤ 999999) ∧ (1 ≤ (L : Int) ∧ (L : Int) ≤ 9999)) := ⟨q1, q2, q3⟩
        clear q1 q2 q3
        go_wp2_with fail
        go_loopw [25] (fun vk wr => ∃ k : Nat, vk = .int .i64 (k : Int) ∧ k ≤ L ∧ Hid ((∀ x ∈ its'.take k, x.Ok) ∧ Below w.heap.size w wr)) (fun vk _ => L - (intOf vk).toNat)
        case atStart => exact ⟨0, rfl, by omega, ⟨by simp, BA.out⟩⟩
        case round =>
          obtain ⟨k, rfl, hk, BB⟩ := hrel
          clear NB BA c0 c1 c2
          by_cases hlt : (k : Int) < (L : Int)
          · obtain ⟨x, hx⟩ := GI.out k (by omega)
            obtain ⟨g, o, rfl, rg⟩ := CE.out wr BB.out.2 k x hx
            have RG : Hid (wr.rangeAt g (o + k * 2) (itL x)) := rg
            have TK : Hid (its'.take (k + 1) = its'.take k ++ [x]) := its_take hx
            have MX : Hid (x ∈ its') := List.mem_of_getElem? hx
            have NB2 : Hid (Blk wr.heap.size 43 itZ (wr.alloc (.cells #[.int .i64 0, .int .i64 0] 43))) := Blk.new 43 itZ wr
            have BA2 : Hid (Below w.heap.size w (wr.alloc (.cells #[.int .i64 0, .int .i64 0] 43)) ∧ w.heap.size ≤ wr.heap.size) := ⟨BB.out.2.alloc BB.out.2.size _, BB.out.2.size⟩
            clear rg hx
            obtain ⟨xl, xa⟩ := x
            go_upto_region 6 with (first
              | (refine step_load rfl 43 _ rfl g (o + k * 2) rfl (itL ⟨xl, xa⟩) _ RG.out Tryd.underlying43 rfl (sizeIt _) ?_)
              | (refine step_store rfl 43 _ _ rfl wr.heap.size 0 43 itZ (itL ⟨xl, xa⟩) rfl rfl NB2.out (Nat.le_refl _) (sizeIt _) (oneIt _) ?_; intro w2 nb2 g2))
            have B2 : Hid (Below w.heap.size w w2) := below_row BA2.out.1 g2 BA2.out.2
            have n2 : Blk wr.heap.size 43 (itL ⟨xl, xa⟩) w2 := nb2
            have d0 := n2.cell 0 _ rfl
            have d1 := n2.cell 1 _ rfl
            clear nb2 n2 g2 NB2 BA2 RG
            go_wp2_with fail
            refine (UT.out _ _ _).mono ?_
            rintro e w3 ⟨rfl, rfl⟩
            by_cases q4 : 1 ≤ xl ∧ xl ≤ 999999
            · rw [decide_eq_true q4]
              go_wp2_with fail
              refine (UL.out _ _ _).mono ?_
              rintro e w3 ⟨rfl, rfl⟩
              by_cases q5 : 1 ≤ xa ∧ xa ≤ 999999999999
              · rw [decide_eq_true q5]
                have OK2 : Hid ((∀ x ∈ its'.take (k + 1), x.Ok) ∧ Below w.heap.size w w2) := ⟨by
                  rw [TK.out]
                  intro y hy
                  rcases List.mem_append.1 hy with hy | hy
                  · exact BB.out.1 y hy
                  · rw [List.mem_singleton.1 hy]
                    exact ⟨q4.1, q4.2, q5.1, q5.2⟩, B2.out⟩
                clear q4 q5
                go_wp2_with fail
                go_roundw
                case rel => exact ⟨k + 1, by go_num, by omega, OK2⟩
                case measure => simp [intOf]; omega
              · rw [decide_eq_false q5]
                have NO : Hid (false = r) := RN.out (fun hh => by have := hh.2.2.2 _ MX.out; exact q5 ⟨this.2.2.1, this.2.2.2⟩)
                clear q4 q5
                go_wp2_with fail
                go_ret
                exact ⟨ret_bool NO.out, B2.out⟩
            · rw [decide_eq_false q4]
              have NO : Hid (false = r) := RN.out (fun hh => by have := hh.2.2.2 _ MX.out; exact q4 ⟨this.1, this.2.1⟩)
              clear q4
              go_wp2_with fail
              go_ret
              exact ⟨ret_bool NO.out, B2.out⟩
          · obtain rfl : k = L := by omega
            have YES : Hid (true = r) := RY.out ⟨QQ.out.1, QQ.out.2.1, QQ.out.2.2, fun x hx => BB.out.1 x (by rw [← HL.out, List.take_length]; exact hx)⟩
            go_wp2_with fail
            go_ret
            exact ⟨ret_bool YES.out, BB.out.2⟩
      · rw [decide_eq_false q3]
        have NO : Hid (false = r) := RN.out (fun hh => q3 hh.2.2.1)
        clear q1 q2 q3
        go_wp2_with fail
        go_ret
        exact ⟨ret_bool NO.out, BA.out⟩
    · rw [decide_eq_false q2]
      have NO : Hid (false = r) := RN.out (fun hh => q2 hh.2.1)
      clear q1 q2
      go_wp2_with fail
      go_ret
      exact ⟨ret_bool NO.out, BA.out⟩
  · rw [decide_eq_false q1]
    have NO : Hid (false = r) := RN.out (fun hh => q1 hh.1)
    clear q1
    go_wp2_with fail
    go_ret
    exact ⟨ret_bool NO.out, BA.out⟩
end Go.Proofs.YtnjpmihffenkcaaDoor
