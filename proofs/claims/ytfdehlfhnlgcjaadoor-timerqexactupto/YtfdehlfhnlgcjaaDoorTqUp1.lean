/-
  Ours: UpTo: the script is played on two trios.
-/
import Derived.Test.YtfdehlfhnlgcjaaDoorTqUpM
import Derived.Test.YtfdehlfhnlgcjaaDoorTqStepA
namespace Go.Proofs.YtfdehlfhnlgcjaaDoor
open Go.RowKit TqM

theorem oneTr {R1 R2 : Nat} {a : Option Addr} {m c : Nat} : ∀ v ∈ trL R1 R2 (.slice a m c), v.oneCell' = true := fun v hv => by
  simp [trL] at hv
  rcases hv with rfl | rfl | rfl <;> rfl

set_option maxRecDepth 20000 in
set_option maxHeartbeats 4000000 in
theorem upTo_at (os : List OpT) (vs : Value) (lo hi : Int) (w : World) (hns : os.length ≤ 100000000) (oko : ∀ o ∈ os, LedM.i64 o.n) (h : RdO w vs os) (ht : TabP w) :
    Calls Tryd.prog 7 #[vs, .int .i64 lo, .int .i64 hi] w fun e w' => e = .returned (.bool true) ∧ Below w.heap.size w w' := by
  obtain ⟨ao, cap, rfl, hcap, hnone, H3⟩ := h
  have OP : Hid (∀ w', Below w.heap.size w w' → ∀ i, i < os.length → ∃ (o : OpT) (g off : Nat), LedM.i64 o.n ∧ ao = some ⟨g, off, none⟩ ∧ w'.rangeAt g (off + i * 6) (opT o)) := fun w' hb i hi => by
    obtain ⟨g, off, e, lt, rg⟩ := H3 i hi
    exact ⟨oN os i, g, off, oko _ (by rw [oN_at hi]; exact List.getElem_mem hi), e, range_later rg lt hb⟩
  have BG : Hid (∀ w', w.heap.size ≤ w'.heap.size → Calls Tryd.prog 8 #[] w' (BegQ w.heap.size w')) := fun w' hb => begin_at _ w' hb
  have ST : Hid (∀ w' R1 R2 N va T G kd ot k n, N + 1 ≤ 1000000000 → Below w.heap.size w w' → LedM.i64 n → Tri w.heap.size R1 R2 va T N G w' → Calls Tryd.prog 9 #[.agg (trL R1 R2 va).toArray, .agg (opL kd ot k n).toArray] w' fun e w2 => ∃ vL', e = .returned (.tuple #[.agg (trL R1 R2 vL').toArray, .bool true]) ∧ ∃ G', TPo (w'.heap.size + 3) w.heap.size R1 R2 vL' T (N + 1) w' G' w2) := fun w' R1 R2 N va T G kd ot k n hN hb hn t => step_at w.heap.size R1 R2 N va T G kd ot k n w' hN hb.size ht.lt (ht.below ht.lt hb) hn t
  clear H3 oko ht
  obtain ⟨n, hn⟩ : ∃ n, os.length = n := ⟨_, rfl⟩
  rw [hn] at OP hns ⊢
  clear hcap hnone hn
  go_enter Tryd.func7, Tryd.ntmps7
  go_wp2_with fail
  refine (BG.out _ (Nat.le_refl _)).mono ?_
  rintro e w1 ⟨R1, R2, rfl, T1, t1, m1, b1⟩
  have HA : Hid (Tri w.heap.size R1 R2 (.slice none 0 0) T1 0 [] w1 ∧ Below w.heap.size w w1 ∧ Blk w1.heap.size 33 (trL R1 R2 (.slice none 0 0)) (w1.alloc (.cells #[.pointer (some ⟨R1, 0, none⟩), .pointer (some ⟨R2, 0, none⟩), .slice none 0 0] 33)) ∧ Below w1.heap.size w1 (w1.alloc (.cells #[.pointer (some ⟨R1, 0, none⟩), .pointer (some ⟨R2, 0, none⟩), .slice none 0 0] 33))) := ⟨t1, b1, Blk.new 33 _ w1, below_alloc _ _⟩
  clear t1 m1 b1
  unfold trV
  go_wp2_with fail
  generalize (w1.alloc (.cells #[.pointer (some ⟨R1, 0, none⟩), .pointer (some ⟨R2, 0, none⟩), .slice none 0 0] 33)) = wa at *
  refine (BG.out _ (Nat.le_trans HA.out.2.1.size HA.out.2.2.2.size)).mono ?_
  rintro e w2 ⟨R3, R4, rfl, T2, t2, m2, b2⟩
  have HU : Hid (UpT w w1.heap.size w2.heap.size R1 R2 R3 R4 (.slice none 0 0) (.slice none 0 0) T1 T2 [] [] 0 (w2.alloc (.cells #[.pointer (some ⟨R3, 0, none⟩), .pointer (some ⟨R4, 0, none⟩), .slice none 0 0] 33))) := UpT.start HA.out.2.1 HA.out.1 rfl HA.out.2.2.1 HA.out.2.2.2 t2 m2 b2 rfl (Blk.new 33 _ w2) (below_alloc _ _)
  clear t2 m2 b2 HA BG
  unfold trV
  go_wp2_with fail
  generalize (w2.alloc (.cells #[.pointer (some ⟨R3, 0, none⟩), .pointer (some ⟨R4, 0, none⟩), .slice none 0 0] 33)) = w3 at *
  generalize w1.heap.size = Q1 at *
  generalize w2.heap.size = Q2 at *
  clear wa w1 w2
  go_loopw [8, 11, 12] (fun vk vi _ wr => ∃ (i : Nat) (va vb : Value) (Ta Tb : Nat → Prop) (Ga Gb : List (Ky × Int)), vk = .bool true ∧ vi = .int .i64 (i : Int) ∧ i ≤ n ∧ Hid (UpT w Q1 Q2 R1 R2 R3 R4 va vb Ta Tb Ga Gb i wr)) (fun _ vi _ _ => n - (intOf vi).toNat)
  case atStart => exact ⟨0, _, _, _, _, _, _, rfl, rfl, by omega, HU.out⟩
  case round =>
    obtain ⟨i, va, vb, Ta, Tb, Ga, Gb, rfl, rfl, hi, U⟩ := hrel
    clear HU
    by_cases hlt : (i : Int) < (n : Int)
    · obtain ⟨o, g, off, okn, rfl, rg⟩ := OP.out wr U.out.b i (by omega)
      have RG : Hid (wr.rangeAt g (off + i * 6) (opT o)) := rg
      have OKN : Hid (LedM.i64 o.n) := okn
      have NB : Hid (Blk wr.heap.size 26 [.int .i64 0, .bool false, .int .i64 0, .int .i64 0, .int .i64 0, .int .i64 0] (wr.alloc (.cells #[.int .i64 0, .bool false, .int .i64 0, .int .i64 0, .int .i64 0, .int .i64 0] 26))) := Blk.new 26 [.int .i64 0, .bool false, .int .i64 0, .int .i64 0, .int .i64 0, .int .i64 0] wr
      clear rg okn OP
      go_upto_region 9 with (first
        | (refine step_load rfl 26 _ rfl g (off + i * 6) rfl (opT o) _ RG.out Tryd.underlying26 rfl (infoO _) ?_)
        | (refine step_store rfl 26 _ _ rfl wr.heap.size 0 26 [.int .i64 0, .bool false, .int .i64 0, .int .i64 0, .int .i64 0, .int .i64 0] (opT o) rfl rfl NB.out (Nat.le_refl _) (infoO _) (oneO _) ?_; intro w5 nb5 g5; have B2 : Hid (Blk wr.heap.size 26 (opT o) w5 ∧ UpT w Q1 Q2 R1 R2 R3 R4 va vb Ta Tb Ga Gb i w5) := ⟨nb5, U.out.below (by have := (below_alloc wr (.cells #[.int .i64 0, .bool false, .int .i64 0, .int .i64 0, .int .i64 0, .int .i64 0] 26)).grown g5 (below_alloc wr (.cells #[.int .i64 0, .bool false, .int .i64 0, .int .i64 0, .int .i64 0, .int .i64 0] 26)).size (fun k e => by cases e; exact Nat.le_refl _); exact this)⟩; clear nb5 g5 NB RG U))
      obtain ⟨kd, ot, k, n0⟩ := o
      obtain ⟨Q, hQ⟩ : ∃ Q, wr.heap.size = Q := ⟨_, rfl⟩
      rw [hQ] at B2 ⊢
      clear hQ
      have c1 := B2.out.1.cell 1 _ rfl
      simp only at c1
      cases ot
      · go_wp2_with (first
          | (refine step_load rfl 33 _ rfl Q1 0 rfl (trL R1 R2 va) _ B2.out.2.q1.all Tryd.underlying33 rfl (infoTr _ _ _) ?_)
          | (refine step_load rfl 26 _ rfl Q 0 rfl (opL kd false k n0) _ B2.out.1.all Tryd.underlying26 rfl (infoO ⟨kd, false, k, n0⟩) ?_))
        refine (ST.out _ R1 R2 i va Ta Ga kd false k n0 (by omega) B2.out.2.b OKN.out B2.out.2.t1).mono ?_
        rintro e w6 ⟨va', rfl, Ga', p⟩
        obtain ⟨sa, sm, sc, hv⟩ := p.shape
        subst hv
        have H6 : Hid (Blk Q1 33 (trL R1 R2 va) w6 ∧ TPo (w5.heap.size + 3) w.heap.size R1 R2 (.slice sa sm sc) Ta (i + 1) w5 Ga' w6) := ⟨p.elim fun T' h => B2.out.2.q1.kp h.2.2 B2.out.2.n1.1, p⟩
        clear p ST c1
        go_upto_region 12 with (refine step_store rfl 33 _ _ rfl Q1 0 33 (trL R1 R2 va) (trL R1 R2 (.slice sa sm sc)) rfl rfl H6.out.1 (Nat.le_refl _) (infoTr _ _ _) oneTr ?_; intro w7 nb7 g7)
        obtain ⟨Ta', U7⟩ := UpT.one B2.out.2 H6.out.2 nb7 g7
        have W7 : Hid (UpT w Q1 Q2 R1 R2 R3 R4 (.slice sa sm sc) vb Ta' Tb Ga' Gb (i + 1) w7) := U7
        clear U7 nb7 g7 H6 B2
        go_wp2_with fail
        go_roundw
        case rel => exact ⟨i + 1, _, _, _, _, _, _, rfl, by go_num, by omega, W7.out⟩
        case measure => simp [intOf]; omega
      · go_wp2_with (first
          | (refine step_load rfl 33 _ rfl Q2 0 rfl (trL R3 R4 vb) _ B2.out.2.q2.all Tryd.underlying33 rfl (infoTr _ _ _) ?_)
          | (refine step_load rfl 26 _ rfl Q 0 rfl (opL kd true k n0) _ B2.out.1.all Tryd.underlying26 rfl (infoO ⟨kd, true, k, n0⟩) ?_))
        refine (ST.out _ R3 R4 i vb Tb Gb kd true k n0 (by omega) B2.out.2.b OKN.out B2.out.2.t2).mono ?_
        rintro e w6 ⟨va', rfl, Ga', p⟩
        obtain ⟨sa, sm, sc, hv⟩ := p.shape
        subst hv
        have H6 : Hid (Blk Q2 33 (trL R3 R4 vb) w6 ∧ TPo (w5.heap.size + 3) w.heap.size R3 R4 (.slice sa sm sc) Tb (i + 1) w5 Ga' w6) := ⟨p.elim fun T' h => B2.out.2.q2.kp h.2.2 B2.out.2.n2.2, p⟩
        clear p ST c1
        go_upto_region 12 with (refine step_store rfl 33 _ _ rfl Q2 0 33 (trL R3 R4 vb) (trL R3 R4 (.slice sa sm sc)) rfl rfl H6.out.1 (Nat.le_refl _) (infoTr _ _ _) oneTr ?_; intro w7 nb7 g7)
        obtain ⟨Ta', U7⟩ := UpT.one B2.out.2.swap H6.out.2 nb7 g7
        have W7 : Hid (UpT w Q2 Q1 R3 R4 R1 R2 (.slice sa sm sc) va Ta' Ta Ga' Ga (i + 1) w7) := U7
        clear U7 nb7 g7 H6 B2
        go_wp2_with fail
        go_roundw
        case rel => exact ⟨i + 1, _, _, _, _, _, _, rfl, by go_num, by omega, W7.out.swap⟩
        case measure => simp [intOf]; omega
    · obtain rfl : i = n := by omega
      have B9 : Hid (Below w.heap.size w wr) := U.out.b
      clear U OP ST
      go_wp2_with fail
      go_ret
      exact ⟨rfl, B9.out⟩
end Go.Proofs.YtfdehlfhnlgcjaaDoor
