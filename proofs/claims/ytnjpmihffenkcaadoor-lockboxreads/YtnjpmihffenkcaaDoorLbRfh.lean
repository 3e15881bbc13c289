/-
  Ours: the reference's Has (gen_lbrft.py).
-/
import Derived.Test.YtnjpmihffenkcaaDoorLbHas
namespace Go.Proofs.YtnjpmihffenkcaaDoor
open Go.RowKit LbM LbF
set_option maxRecDepth 20000 in
set_option maxHeartbeats 8000000 in
theorem rhas_at (b : Bt) (v : Value) (w : World) (hl : b.its.length ≤ 1000000000) (h : RdI w v b.its) : Calls Tryd.prog 16 #[btV b v] w fun e w' => e = .returned (.bool (decide b.Has)) ∧ Below w.heap.size w w' := by
  obtain ⟨ao, cap, rfl, hcap, hno, H⟩ := h
  have CE : Hid (∀ w', Below w.heap.size w w' → ∀ (i : Nat) (x : It), b.its[i]? = some x → ∃ g o, ao = some ⟨g, o, none⟩ ∧ w'.rangeAt g (o + i * 2) (itL x)) := fun w' hb i x hi => by
    obtain ⟨g, o, e, lt, r⟩ := H i x hi
    exact ⟨g, o, e, range_later r lt hb⟩
  obtain ⟨its, hits⟩ : ∃ its, b.its = its := ⟨_, rfl⟩
  obtain ⟨L, hL⟩ : ∃ L, its.length = L := ⟨_, rfl⟩
  have HL : Hid (its.length = L) := hL
  have GI : Hid (∀ i, i < L → ∃ x, its[i]? = some x) := fun i hi => ⟨_, List.getElem?_eq_getElem (by omega)⟩
  obtain ⟨day, num, its'⟩ := b
  simp only at hits
  subst hits
  have HB : Hid ((⟨day, num, its'⟩ : Bt).Has ↔ (1 ≤ day ∧ day ≤ 3652059) ∧ (1 ≤ num ∧ num ≤ 999999) ∧ (1 ≤ (L : Int) ∧ (L : Int) ≤ 9999) ∧ ∀ x ∈ its', x.Ok) := by
    unfold Bt.Has
    simp only [hL]
    constructor
    · rintro ⟨a, b, c, d, e, f, g⟩; exact ⟨⟨a, b⟩, ⟨c, d⟩, ⟨by omega, by omega⟩, g⟩
    · rintro ⟨⟨a, b⟩, ⟨c, d⟩, ⟨e, f⟩, g⟩; exact ⟨a, b, c, d, by omega, by omega, g⟩
  obtain ⟨r, hr⟩ : ∃ r, decide (⟨day, num, its'⟩ : Bt).Has = r := ⟨_, rfl⟩
  have RN : Hid (¬ ((1 ≤ day ∧ day ≤ 3652059) ∧ (1 ≤ num ∧ num ≤ 999999) ∧ (1 ≤ (L : Int) ∧ (L : Int) ≤ 9999) ∧ ∀ x ∈ its', x.Ok) → false = r) := fun h => by rw [← hr]; exact (decide_eq_false (fun q => h (HB.out.1 q))).symm
  have RY : Hid (((1 ≤ day ∧ day ≤ 3652059) ∧ (1 ≤ num ∧ num ≤ 999999) ∧ (1 ≤ (L : Int) ∧ (L : Int) ≤ 9999) ∧ ∀ x ∈ its', x.Ok) → true = r) := fun h => by rw [← hr]; exact (decide_eq_true (HB.out.2 h)).symm
  rw [hr]
  clear hr
  simp only [hL] at hl hcap CE
  have NB : Hid (Blk w.heap.size 24 [.int .i64 day, .int .i64 num, .slice ao L cap] (w.alloc (.cells #[.int .i64 day, .int .i64 num, .slice ao L cap] 24))) := Blk.new 24 [.int .i64 day, .int .i64 num, .slice ao L cap] w
  have BA : Hid (Below w.heap.size w (w.alloc (.cells #[.int .i64 day, .int .i64 num, .slice ao L cap] 24))) := below_alloc w _
  clear HB hno H
  simp only [hL]
  go_enter Tryd.func16, Tryd.ntmps16
  go_upto_region 1 with fail
  generalize w.alloc (.cells #[.int .i64 day, .int .i64 num, .slice ao L cap] 24) = w1 at *
  have c0 := NB.out.cell 0 _ rfl
  have c1 := NB.out.cell 1 _ rfl
  have c2 := NB.out.cell 2 _ rfl
  by_cases h0 : day < 1
  · have NO : Hid (false = r) := RN.out (fun hh => by have := hh.1.1; omega)
    go_wp2_with fail
    go_ret
    exact ⟨ret_bool NO.out, BA.out⟩
  · skip
    by_cases h1 : 3652059 < day
    · have NO : Hid (false = r) := RN.out (fun hh => by have := hh.1.2; omega)
      go_wp2_with fail
      go_ret
      exact ⟨ret_bool NO.out, BA.out⟩
    · skip
      by_cases h2 : num < 1
      · have NO : Hid (false = r) := RN.out (fun hh => by have := hh.2.1.1; omega)
        go_wp2_with fail
        go_ret
        exact ⟨ret_bool NO.out, BA.out⟩
      · skip
        by_cases h3 : 999999 < num
        · have NO : Hid (false = r) := RN.out (fun hh => by have := hh.2.1.2; omega)
          go_wp2_with fail
          go_ret
          exact ⟨ret_bool NO.out, BA.out⟩
        · skip
          by_cases h4 : (L : Int) < 1
          · have NO : Hid (false = r) := RN.out (fun hh => by have := hh.2.2.1.1; omega)
            go_wp2_with fail
            go_ret
            exact ⟨ret_bool NO.out, BA.out⟩
          · skip
            by_cases h5 : 9999 < (L : Int)
            · have NO : Hid (false = r) := RN.out (fun hh => by have := hh.2.2.1.2; omega)
              go_wp2_with fail
              go_ret
              exact ⟨ret_bool NO.out, BA.out⟩
            · skip
              have QQ : Hid ((1 ≤ day ∧ day ≤ 3652059) ∧ (1 ≤ num ∧ num ≤ 999999) ∧ (1 ≤ (L : Int) ∧ (L : Int) ≤ 9999)) := ⟨⟨by omega, by omega⟩, ⟨by omega, by omega⟩, by omega, by omega⟩
              go_wp2_with fail
              go_loopw [3] (fun vk wr => ∃ k : Nat, vk = .int .i64 (k : Int) ∧ k ≤ L ∧ Hid ((∀ x ∈ its'.take k, x.Ok) ∧ Blk w.heap.size 24 [.int .i64 day, .int .i64 num, .slice ao L cap] wr ∧ Below w.heap.size w wr)) (fun vk _ => L - (intOf vk).toNat)
              case atStart => exact ⟨0, rfl, by omega, ⟨by simp, NB.out, BA.out⟩⟩
              case round =>
                obtain ⟨k, rfl, hk, BB⟩ := hrel
                clear NB BA c0 c1 c2 h0 h1 h2 h3 h4 h5
                have c2 := BB.out.2.1.cell 2 _ rfl
                by_cases hlt : (k : Int) < (L : Int)
                · obtain ⟨x, hx⟩ := GI.out k (by omega)
                  obtain ⟨g, o, rfl, rg⟩ := CE.out wr BB.out.2.2 k x hx
                  have RG : Hid (wr.rangeAt g (o + k * 2) (itL x)) := rg
                  have TK : Hid (its'.take (k + 1) = its'.take k ++ [x]) := its_take hx
                  have MX : Hid (x ∈ its') := List.mem_of_getElem? hx
                  have NB2 : Hid (Blk wr.heap.size 43 itZ (wr.alloc (.cells #[.int .i64 0, .int .i64 0] 43))) := Blk.new 43 itZ wr
                  clear rg hx
                  obtain ⟨xl, xa⟩ := x
                  go_upto_region 7 with (first
                    | (refine step_load rfl 43 _ rfl g (o + k * 2) rfl (itL ⟨xl, xa⟩) _ RG.out Tryd.underlying43 rfl (sizeIt _) ?_)
                    | (refine step_store rfl 43 _ _ rfl wr.heap.size 0 43 itZ (itL ⟨xl, xa⟩) rfl rfl NB2.out (Nat.le_refl _) (sizeIt _) (oneIt _) ?_; intro w2 nb2 g2))
                  have b2 : Below wr.heap.size wr w2 := below_row (below_alloc _ _) g2 (Nat.le_refl _)
                  have B2 : Hid (Blk w.heap.size 24 [.int .i64 day, .int .i64 num, .slice (some ⟨g, o, none⟩) L cap] w2 ∧ Below w.heap.size w w2) := ⟨BB.out.2.1.below b2, below_trans BB.out.2.2 b2⟩
                  have d0 := Blk.cell nb2 0 _ rfl
                  have d1 := Blk.cell nb2 1 _ rfl
                  clear nb2 g2 NB2 b2 RG c2
                  by_cases h0 : xl < 1
                  · have NO : Hid (false = r) := RN.out (fun hh => by have := hh.2.2.2 _ MX.out; unfold It.Ok at this; simp only at this; omega)
                    go_wp2_with fail
                    go_ret
                    exact ⟨ret_bool NO.out, B2.out.2⟩
                  · skip
                    by_cases h1 : 999999 < xl
                    · have NO : Hid (false = r) := RN.out (fun hh => by have := hh.2.2.2 _ MX.out; unfold It.Ok at this; simp only at this; omega)
                      go_wp2_with fail
                      go_ret
                      exact ⟨ret_bool NO.out, B2.out.2⟩
                    · skip
                      by_cases h2 : xa < 1
                      · have NO : Hid (false = r) := RN.out (fun hh => by have := hh.2.2.2 _ MX.out; unfold It.Ok at this; simp only at this; omega)
                        go_wp2_with fail
                        go_ret
                        exact ⟨ret_bool NO.out, B2.out.2⟩
                      · skip
                        by_cases h3 : 999999999999 < xa
                        · have NO : Hid (false = r) := RN.out (fun hh => by have := hh.2.2.2 _ MX.out; unfold It.Ok at this; simp only at this; omega)
                          go_wp2_with fail
                          go_ret
                          exact ⟨ret_bool NO.out, B2.out.2⟩
                        · skip
                          have OK2 : Hid ((∀ x ∈ its'.take (k + 1), x.Ok) ∧ Blk w.heap.size 24 [.int .i64 day, .int .i64 num, .slice (some ⟨g, o, none⟩) L cap] w2 ∧ Below w.heap.size w w2) := ⟨by
                            rw [TK.out]
                            intro y hy
                            rcases List.mem_append.1 hy with hy | hy
                            · exact BB.out.1 y hy
                            · rw [List.mem_singleton.1 hy]
                              unfold It.Ok
                              simp only
                              omega, B2.out.1, B2.out.2⟩
                          go_wp2_with fail
                          go_roundw
                          case rel => exact ⟨k + 1, by go_num, by omega, OK2⟩
                          case measure => simp [intOf]; omega
                · obtain rfl : k = L := by omega
                  have YES : Hid (true = r) := RY.out ⟨QQ.out.1, QQ.out.2.1, QQ.out.2.2, fun x hx => BB.out.1 x (by rw [← HL.out, List.take_length]; exact hx)⟩
                  go_wp2_with fail
                  go_ret
                  exact ⟨ret_bool YES.out, BB.out.2.2⟩
end Go.Proofs.YtnjpmihffenkcaaDoor
