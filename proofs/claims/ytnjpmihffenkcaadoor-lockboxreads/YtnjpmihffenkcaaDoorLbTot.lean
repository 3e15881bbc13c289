/-
  Ours: lockbox.totals, tellBatch, Format.
-/
import Derived.Test.YtnjpmihffenkcaaDoorLbApp
import Derived.Test.YtnjpmihffenkcaaDoorCalCivil
namespace Go.Proofs.YtnjpmihffenkcaaDoor
open Go.RowKit LbM LbF CalM
theorem its_nat {x : It} (h : x.Ok) : ∃ l a : Nat, x = ⟨(l : Int), (a : Int)⟩ ∧ l ≤ 999999 ∧ a ≤ 999999999999 := by
  obtain ⟨xl, xa⟩ := x
  unfold It.Ok at h
  simp only at h
  exact ⟨xl.toNat, xa.toNat, by rw [show ((xl.toNat : Int)) = xl by omega, show ((xa.toNat : Int)) = xa by omega], by omega, by omega⟩
/-- A slice of three numbers, in memory of its own. -/
def NumAns (w : World) (ns : List Nat) (e : Ending) (w' : World) : Prop := ∃ N, e = .returned (.slice (some ⟨N, 0, none⟩) 3 3) ∧ Blk N 2 (nvL ns) w' ∧ Below w.heap.size w w' ∧ w.heap.size ≤ N
set_option maxRecDepth 20000 in
set_option maxHeartbeats 4000000 in
theorem totals_at (its : List It) (v : Value) (w : World) (hl : its.length ≤ 9999) (ok : ∀ x ∈ its, x.Ok) (h : RdI w v its) : Calls Tryd.prog 37 #[v] w (NumAns w (totN its)) := by
  obtain ⟨ao, cap, rfl, hcap, hno, H⟩ := h
  have CE : Hid (∀ w', Below w.heap.size w w' → ∀ (i : Nat) (x : It), its[i]? = some x → ∃ g o, ao = some ⟨g, o, none⟩ ∧ w'.rangeAt g (o + i * 2) (itL x)) := fun w' hb i x hi => by
    obtain ⟨g, o, e, lt, r⟩ := H i x hi
    exact ⟨g, o, e, range_later r lt hb⟩
  obtain ⟨L, hL⟩ : ∃ L, its.length = L := ⟨_, rfl⟩
  have GI : Hid (∀ i, i < L → ∃ l a : Nat, its[i]? = some ⟨(l : Int), (a : Int)⟩ ∧ l ≤ 999999 ∧ a ≤ 999999999999 ∧ sumA (its.take (i + 1)) = sumA (its.take i) + a ∧ sumH (its.take (i + 1)) = sumH (its.take i) + l) := fun i hi => by
    have hx : its[i]? = some (its[i]'(by omega)) := List.getElem?_eq_getElem (by omega)
    obtain ⟨l, a, e, hl, ha⟩ := its_nat (ok _ (List.mem_of_getElem? hx))
    rw [e] at hx
    refine ⟨l, a, hx, hl, ha, ?_, ?_⟩
    · rw [its_take hx, sumA_app, sumA_cons]; simp [sumA]
    · rw [its_take hx, sumH_app, sumH_cons]; simp [sumH]
  have SB : Hid (∀ i, i ≤ L → sumA (its.take i) ≤ 9998999999990001 ∧ sumH (its.take i) ≤ 9998990001) := fun i hi => by
    have h1 := sumA_le (its.take i) (fun x hx => ok x (List.mem_of_mem_take hx))
    have h2 := sumH_le (its.take i) (fun x hx => ok x (List.mem_of_mem_take hx))
    have h3 : (its.take i).length ≤ 9999 := by rw [List.length_take]; omega
    generalize (its.take i).length = n at *
    generalize sumA (its.take i) = s1 at *
    generalize sumH (its.take i) = s2 at *
    exact ⟨by omega, by omega⟩
  have TK : Hid (its.take L = its) := by show _ = _; rw [← hL, List.take_length]
  have NV : Hid (nvL (totN its) = [iv (L : Int), iv (sumA its : Int), iv ((sumH its % 10000000000 : Nat) : Int)]) := by show _ = _; unfold totN; rw [← hL]; rfl
  rw [hL] at hl hcap
  rw [hL]
  clear H hL hno ok
  go_enter Tryd.func37, Tryd.ntmps37
  go_wp2_with fail
  go_loopw [3, 4, 9] (fun vs vh vk wr => ∃ (k s t : Nat), vk = .int .i64 (k : Int) ∧ k ≤ L ∧ vs = .int .i64 (s : Int) ∧ vh = .int .i64 (t : Int) ∧ s ≤ 9998999999990001 ∧ t ≤ 9998990001 ∧ Hid (s = sumA (its.take k) ∧ t = sumH (its.take k) ∧ Below w.heap.size w wr)) (fun _ _ vk _ => L - (intOf vk).toNat)
  case atStart => exact ⟨0, 0, 0, rfl, by omega, rfl, rfl, by omega, by omega, ⟨by simp [sumA], by simp [sumH], Below.refl _ _⟩⟩
  case round =>
    obtain ⟨k, s, t, rfl, hk, rfl, rfl, hs, ht, HR⟩ := hrel
    by_cases hlt : (k : Int) < (L : Int)
    · obtain ⟨l, a, hx, hl1, ha1, e1, e2⟩ := GI.out k (by omega)
      obtain ⟨g, o, rfl, rg⟩ := CE.out wr HR.out.2.2 k _ hx
      have RG : Hid (wr.rangeAt g (o + k * 2) (itL ⟨(l : Int), (a : Int)⟩)) := rg
      have sb := SB.out (k + 1) (by omega)
      rw [e1, e2, ← HR.out.1, ← HR.out.2.1] at sb
      have E1 : Hid (sumA (its.take (k + 1)) = s + a ∧ sumH (its.take (k + 1)) = t + l) := ⟨by rw [e1, HR.out.1], by rw [e2, HR.out.2.1]⟩
      have NB2 : Hid (Blk wr.heap.size 43 itZ (wr.alloc (.cells #[.int .i64 0, .int .i64 0] 43))) := Blk.new 43 itZ wr
      have BA2 : Hid (Below w.heap.size w (wr.alloc (.cells #[.int .i64 0, .int .i64 0] 43)) ∧ w.heap.size ≤ wr.heap.size) := ⟨HR.out.2.2.alloc HR.out.2.2.size _, HR.out.2.2.size⟩
      clear rg hx e1 e2
      go_upto_region 5 with (first
        | (refine step_load rfl 43 _ rfl g (o + k * 2) rfl (itL ⟨(l : Int), (a : Int)⟩) _ RG.out Tryd.underlying43 rfl (sizeIt _) ?_)
        | (refine step_store rfl 43 _ _ rfl wr.heap.size 0 43 itZ (itL ⟨(l : Int), (a : Int)⟩) rfl rfl NB2.out (Nat.le_refl _) (sizeIt _) (oneIt _) ?_; intro w2 nb2 g2))
      have B2 : Hid (Below w.heap.size w w2) := below_row BA2.out.1 g2 BA2.out.2
      have n2 : Blk wr.heap.size 43 (itL ⟨(l : Int), (a : Int)⟩) w2 := nb2
      have d0 := n2.cell 0 _ rfl
      have d1 := n2.cell 1 _ rfl
      clear nb2 n2 g2 NB2 BA2 RG HR
      go_wp2_with fail
      go_roundw
      case rel => exact ⟨k + 1, s + a, t + l, by go_num, by omega, by go_num, by go_num, sb.1, sb.2, ⟨E1.out.1.symm, E1.out.2.symm, B2.out⟩⟩
      case measure => simp [intOf]; omega
    · obtain rfl : k = L := by omega
      have HS : Hid (s = sumA its ∧ t = sumH its ∧ Below w.heap.size w wr) := by have := HR.out; rw [TK.out] at this; exact this
      have md : ((t : Int)).tmod 10000000000 = ((t % 10000000000 : Nat) : Int) := by
        rw [Int.tmod_eq_emod_of_nonneg (by omega)]; rfl
      clear HR
      go_wp2_with fail
      go_ret
      refine ⟨wr.heap.size, rfl, ?_, HS.out.2.2.alloc HS.out.2.2.size _, HS.out.2.2.size⟩
      rw [NV.out, ← HS.out.1, ← HS.out.2.1]
      exact Blk.new 2 _ wr
end Go.Proofs.YtnjpmihffenkcaaDoor
