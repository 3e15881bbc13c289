/-
  Ours: the walk of WaterfallBooks.
-/
import Derived.Test.YtplebplpachgiabDoorWatPsd
import Derived.Test.YtplebplpachgiabDoorWatLent
import Derived.Test.YtplebplpachgiabDoorWatAl
import Derived.Test.YtplebplpachgiabDoorWatRec
import Derived.Test.YtplebplpachgiabDoorWatPay
namespace Go.Proofs.YtplebplpachgiabDoor
open Go.RowKit LedM WatM

namespace WatM
theorem lentL_ok {f i p s : Int} (hf : 0 ≤ f ∧ f ≤ 1000000000000000) (hi : 0 ≤ i ∧ i ≤ 1000000000000000) (hp : 0 ≤ p ∧ p ≤ 1000000000000000) (hs : 0 ≤ s ∧ s ≤ 1000000000000000) : BkOk (lentL f i p s) := by
  refine ⟨rfl, fun k => ?_⟩
  by_cases hk : k < 12
  · have : k = 0 ∨ k = 1 ∨ k = 2 ∨ k = 3 ∨ k = 4 ∨ k = 5 ∨ k = 6 ∨ k = 7 ∨ k = 8 ∨ k = 9 ∨ k = 10 ∨ k = 11 := by omega
    unfold i64
    rcases this with e | e | e | e | e | e | e | e | e | e | e | e <;> subst e <;> simp [lentL] <;> omega
  · rw [List.getD_eq_getElem?_getD, List.getElem?_eq_none (by simp [lentL]; omega)]
    exact ⟨by simp, by simp⟩
theorem posted_pure {f i p s x y z u r : Int} (hf : 0 ≤ f ∧ f ≤ 1000000000000000) (hi : 0 ≤ i ∧ i ≤ 1000000000000000) (hp : 0 ≤ p ∧ p ≤ 1000000000000000) (hs : 0 ≤ s ∧ s ≤ 1000000000000000) (hx : 0 ≤ x ∧ x ≤ f) (hy : 0 ≤ y ∧ y ≤ i) (hz : 0 ≤ z ∧ z ≤ p) (hu : 0 ≤ u ∧ u ≤ 1000000000000000) (hr : 0 ≤ r ∧ r ≤ 1000000000000000) :
    postE (lentL f i p s) (entsP x y z u r) = 0 ∧ postB (lentL f i p s) (entsP x y z u r) = paidL f i p s x y z u r ∧ postE (paidL f i p s x y z u r) (undoP x y z u r) = 0 ∧ postB (paidL f i p s x y z u r) (undoP x y z u r) = lentL f i p s ∧ ∃ d, trV (paidL f i p s x y z u r) = .tuple #[.int .i64 d, .int .i64 d, .bool true] := by
  have M := moved_lent (f := f) (i := i) (p := p) (s := s) hx.1 hy.1 hz.1 hu.1 hr.1
  have N := moved_back (l := lentL f i p s) rfl M
  obtain ⟨a, b, c⟩ := fine12 (b0 := x + y + z + u + r) (b1 := p - z) (b2 := i - y) (b3 := f - x) (b4 := -u) (b6 := -p - s) (b7 := -i) (b8 := -f) (b9 := s) (b10 := -r) (by omega) (by omega) (by omega) (by omega) (by omega) (by omega) (by omega) (by omega) (by omega) (by omega)
  obtain ⟨a', b', c'⟩ := fine12 (b0 := 0) (b1 := p) (b2 := i) (b3 := f) (b4 := 0) (b6 := -p - s) (b7 := -i) (b8 := -f) (b9 := s) (b10 := 0) (by omega) (by omega) (by omega) (by omega) (by omega) (by omega) (by omega) (by omega) (by omega) (by omega)
  have e1 : postE (lentL f i p s) (entsP x y z u r) = 0 := postE_zero.2 ⟨ents_fault .., by rw [M]; exact a, by rw [M]; exact b, by rw [M]; exact c⟩
  have e3 : postE (paidL f i p s x y z u r) (undoP x y z u r) = 0 := postE_zero.2 ⟨undo_fault .., by rw [N]; exact a', by rw [N]; exact b', by rw [N]; exact c'⟩
  refine ⟨e1, by rw [postB_zero e1, M], e3, by rw [postB_zero e3, N], trial_even rfl ?_ ?_⟩
  · simp only [paidL, total]; omega
  · intro q hq
    simp only [paidL, List.mem_cons, List.not_mem_nil, or_false] at hq
    omega
end WatM

theorem posted_yes (f i p s x y z u r a : Int) (w : World) (hT : TabD w) (hf : 0 ≤ f ∧ f ≤ 1000000000000000) (hi : 0 ≤ i ∧ i ≤ 1000000000000000) (hp : 0 ≤ p ∧ p ≤ 1000000000000000) (hs : 0 ≤ s ∧ s ≤ 1000000000000000) (hx : 0 ≤ x ∧ x ≤ f) (hy : 0 ≤ y ∧ y ≤ i) (hz : 0 ≤ z ∧ z ≤ p) (hu : 0 ≤ u ∧ u ≤ 1000000000000000) (hr : 0 ≤ r ∧ r ≤ 1000000000000000) (ha : x + y + z + u + r = a) :
    Calls Tryd.prog 7 #[.agg (bkL (lentL f i p s)).toArray, .agg (bkL [x, y, z, u, r]).toArray, .int .i64 a] w fun e w' => e = .returned (.bool true) ∧ Below w.heap.size w w' := by
  obtain ⟨e1, e2, e3, e4, d, e5⟩ := posted_pure hf hi hp hs hx hy hz hu hr
  have hL := lentL_ok hf hi hp hs
  refine posted_at (lentL f i p s) (paidL f i p s x y z u r) x y z u r a d w hL ?_ hT ⟨by omega, by omega⟩ ⟨by omega, by omega⟩ ⟨by omega, by omega⟩ ⟨by omega, by omega⟩ ⟨by omega, by omega⟩ ⟨by omega, by omega⟩ e1 e2 e3 e4 e5 ?_ ?_ ?_ ?_ ?_ ?_
  · have := postB_ok (es := entsP x y z u r) hL
    rwa [e2] at this
  · show x + y + z + u + r - 0 = a; omega
  · show f - (f - x) = x; omega
  · show i - (i - y) = y; omega
  · show p - (p - z) = z; omega
  · show 0 - (-u) = u; omega
  · show 0 - (-r) = r; omega

set_option maxRecDepth 20000 in
set_option maxHeartbeats 4000000 in
theorem books_any (o f i p a s : Int) (w : World) (ho : i64 o) (hf : i64 f) (hi : i64 i) (hp : i64 p) (ha : i64 a) (hs : i64 s) (hT : TabO w) (hD : TabD w) :
    Calls Tryd.prog 3 #[.int .i64 o, .agg (bkL [f, i, p]).toArray, .int .i64 a, .int .i64 s] w fun e w' => e = .returned (.bool true) ∧ Below w.heap.size w w' := by
  have PA : Hid (∀ w', Calls Tryd.prog 4 #[.int .i64 o, .agg (bkL [f, i, p]).toArray, .int .i64 a] w' fun e w2 => e = .returned (.bool (payB o f i p a)) ∧ Below w'.heap.size w' w2) := fun w' => payable_at o f i p a w'
  have SM : Hid (∀ w', Calls Tryd.prog 5 #[.agg (bkL [f, i, p]).toArray, .int .i64 a, .int .i64 s] w' fun e w2 => e = .returned (.bool (smB f i p a s)) ∧ Below w'.heap.size w' w2) := fun w' => small_at f i p a s w'
  have AL : Hid (∀ w', Below w.heap.size w w' → Calls Tryd.prog 6 #[.int .i64 o, .agg (bkL [f, i, p]).toArray, .int .i64 a] w' fun e w2 => e = .returned (.tuple #[.agg (bkL (alP o f i p a)).toArray, .int .i64 (alE o f i p a)]) ∧ Below w'.heap.size w' w2) := fun w' b => alloc_at o f i p a w' ho hf hi hp ha (hT.later b)
  have RC : Hid (∀ w', Calls Tryd.prog 9 #[.int .i64 s, .int .i64 a] w' fun e w2 => e = .returned (.tuple #[.agg (bkL (recP s a)).toArray, .int .i64 (recE s a)]) ∧ Below w'.heap.size w' w2) := fun w' => recover_at s a w' hs ha
  have TD : Hid (∀ w', Below w.heap.size w w' → TabD w') := fun w' b => hD.later b
  have K0 : Hid (KB w [(w.heap.size, 23, bkL [f, i, p])] (w.alloc (.cells (bkL [f, i, p]).toArray 23))) := (KB.start w).new _ _
  unfold i64 at ho hf hi hp ha hs
  clear hT hD
  go_enter Tryd.func3, Tryd.ntmps3
  go_wp2_with (refine step_load rfl 23 _ rfl w.heap.size 0 rfl (bkL [f, i, p]) _ (K0.out.at 0 rfl).all Tryd.underlying23 rfl infoO ?_)
  refine (PA.out _).mono ?_
  rintro e w1 ⟨rfl, b1⟩
  have K1 : Hid (KB w [(w.heap.size, 23, bkL [f, i, p])] w1) := K0.out.call b1
  clear PA K0 b1
  by_cases hB : payB o f i p a = true
  case neg =>
    have hB : payB o f i p a = false := by simpa using hB
    rw [hB]
    clear hB
    go_wp2_with fail
    go_ret
    exact ⟨rfl, K1.out.bb⟩
  case pos =>
    obtain ⟨hn, hf0, hi0, hp0, ha1⟩ := of_decide_eq_true hB
    rw [hB]
    clear hB
    have o0 := (K1.out.at 0 rfl).cell 0 _ rfl
    have o1 := (K1.out.at 0 rfl).cell 1 _ rfl
    have o2 := (K1.out.at 0 rfl).cell 2 _ rfl
    go_wp2_with fail
    clear o0 o1 o2
    refine (SM.out _).mono ?_
    rintro e w2 ⟨rfl, b2⟩
    have K2 : Hid (KB w [(w.heap.size, 23, bkL [f, i, p])] w2) := K1.out.call b2
    clear SM K1 b2
    by_cases hB : smB f i p a s = true
    case neg =>
      have hB : smB f i p a s = false := by simpa using hB
      rw [hB]
      clear hB
      go_wp2_with fail
      go_ret
      exact ⟨rfl, K2.out.bb⟩
    case pos =>
      obtain ⟨mf, mi, mp, ma, s0, ms⟩ := of_decide_eq_true hB
      rw [hB]
      clear hB
      obtain ⟨n, rfl⟩ : ∃ n : Nat, o = (n : Int) := ⟨o.toNat, by omega⟩
      have hn6 : n < 6 := by omega
      obtain ⟨x, y, z, u, eA, x0, xf, y0, yi, z0, zp, u0, su⟩ := alG_fits hn6 hf0 hi0 hp0 ha1
      have A1 : Hid (∀ w', Below w.heap.size w w' → Calls Tryd.prog 6 #[.int .i64 (n : Int), .agg (bkL [f, i, p]).toArray, .int .i64 a] w' fun e w2 => e = .returned (.tuple #[.agg (bkL [x, y, z, u, 0]).toArray, .int .i64 0]) ∧ Below w'.heap.size w' w2) := fun w' hb => by
        have := AL.out w' hb
        rwa [(alE_ok hn6 hf0 hi0 hp0 ha1).1, (alE_ok hn6 hf0 hi0 hp0 ha1).2, eA] at this
      have LE : Hid (∀ w', Calls Tryd.prog 8 #[.agg (bkL [f, i, p]).toArray, .int .i64 s] w' fun e w2 => e = .returned (.agg (bkL (lentL f i p s)).toArray) ∧ Below w'.heap.size w' w2) := fun w' => lent_at f i p s w' ⟨hf0, mf⟩ ⟨hi0, mi⟩ ⟨hp0, mp⟩ ⟨s0, ms⟩
      have PO : Hid (∀ w', Below w.heap.size w w' → Calls Tryd.prog 7 #[.agg (bkL (lentL f i p s)).toArray, .agg (bkL [x, y, z, u, 0]).toArray, .int .i64 a] w' fun e w2 => e = .returned (.bool true) ∧ Below w'.heap.size w' w2) := fun w' hb => posted_yes f i p s x y z u 0 a w' (TD.out w' hb) ⟨hf0, mf⟩ ⟨hi0, mi⟩ ⟨hp0, mp⟩ ⟨s0, ms⟩ ⟨x0, xf⟩ ⟨y0, yi⟩ ⟨z0, zp⟩ ⟨u0, by omega⟩ ⟨by omega, by omega⟩ (by omega)
      have RR : ∃ v q, recP s a = [0, 0, 0, v, q] ∧ recE s a = 0 ∧ 0 ≤ v ∧ v ≤ 1000000000000000 ∧ 0 ≤ q ∧ q ≤ s ∧ v + q = a ∧ (v = 0 ∨ q = s) := by
        have e0 : recE s a = 0 := by unfold recE; rw [if_neg (by omega), if_neg (by omega)]
        by_cases h : s ≤ a
        · exact ⟨a - s, s, by unfold recP; rw [if_neg (by omega), if_neg (by omega), if_pos h], e0, by omega, by omega, by omega, by omega, by omega, .inr rfl⟩
        · exact ⟨0, a, by unfold recP; rw [if_neg (by omega), if_neg (by omega), if_neg h], e0, by omega, by omega, by omega, by omega, by omega, .inl rfl⟩
      obtain ⟨v, q, eP, eE, v0, v1, q0, hqs, sv, hvq⟩ := RR
      rw [eP, eE] at RC
      have PO2 : Hid (∀ w', Below w.heap.size w w' → Calls Tryd.prog 7 #[.agg (bkL (lentL f i p s)).toArray, .agg (bkL [0, 0, 0, v, q]).toArray, .int .i64 a] w' fun e w2 => e = .returned (.bool true) ∧ Below w'.heap.size w' w2) := fun w' hb => posted_yes f i p s 0 0 0 v q a w' (TD.out w' hb) ⟨hf0, mf⟩ ⟨hi0, mi⟩ ⟨hp0, mp⟩ ⟨s0, ms⟩ ⟨by omega, by omega⟩ ⟨by omega, by omega⟩ ⟨by omega, by omega⟩ ⟨v0, v1⟩ ⟨q0, by omega⟩ (by omega)
      have HQ : Hid (q ≤ s ∧ (v = 0 ∨ q = s)) := ⟨hqs, hvq⟩
      clear eA AL hn su eP eE sv TD hqs hvq x0 xf y0 yi z0 zp u0 v0 v1 q0 hf0 hi0 hp0 ha1 mf mi mp ma s0 ms hf hi hp ha hs ho hn6
      go_wp2_with (refine step_load rfl 23 _ rfl w.heap.size 0 rfl (bkL [f, i, p]) _ (K2.out.at 0 rfl).all Tryd.underlying23 rfl infoO ?_)
      refine (A1.out _ K2.out.bb).mono ?_
      rintro e w3 ⟨rfl, b3⟩
      have K3 : Hid (KB w [(w.heap.size, 23, bkL [f, i, p])] w3) := K2.out.call b3
      have Z3 : Hid (Blk w3.heap.size 27 (bkL z5) (w3.alloc z5o)) := Blk.new 27 (bkL z5) w3
      clear A1 K2 b3
      go_wp2_with (refine step_store rfl 27 _ _ rfl w3.heap.size 0 27 (bkL z5) (bkL [x, y, z, u, 0]) rfl rfl Z3.out (Nat.le_refl _) infoP (bkL_one _) ?_; intro w4 nb4 g4; have K4 : Hid (KB w [(w3.heap.size, 27, bkL [x, y, z, u, 0]), (w.heap.size, 23, bkL [f, i, p])] w4) := K3.out.put _ nb4 g4; clear nb4 g4 K3 Z3)
      have LE2 := LE
      refine wp_region_held_drew (S := fun w' => KB w [(w3.heap.size, 27, bkL [x, y, z, u, 0]), (w.heap.size, 23, bkL [f, i, p])] w') (by kernel_rfl) (K4.out.drewN 1) (fun hH => ?_)
      refine wpAnyH_take (i := 0) (oi := { dst := some 32, op := Op.move (Operand.tmp 10), type := 28, pos := "outright.go:129", after := #[], guard := none }) (v := .int .i64 0) rfl (by kernel_rfl) (by kernel_rfl) (by kernel_rfl) (fun _ _ _ h => h) (Or.inl ⟨by rfl, fun w' hs => by go_simp⟩) hH ?_
      simp only [Act.put, List.setIfInBounds_toArray, List.set_cons_zero, List.set_cons_succ]
      refine wpAnyH_take (i := 1) (oi := { dst := some 33, op := Op.binOp BinOp.neq 28 (Operand.tmp 32) (Operand.const (Value.int IntKind.i64 0)) 28, type := 4, pos := "outright.go:129", after := #[{ on := 0, ground := Ground.data }], guard := none }) (v := .bool false) rfl (by kernel_rfl) (by kernel_rfl) (by kernel_rfl) (fun _ _ _ h => h) (Or.inl ⟨by rfl, fun w' hs => by go_simp⟩) hH ?_
      simp only [Act.put, List.setIfInBounds_toArray, List.set_cons_zero, List.set_cons_succ]
      refine wpAnyH_take (i := 2) (oi := { dst := some 34, op := Op.move (Operand.tmp 33), type := 4, pos := "outright.go:129", after := #[{ on := 1, ground := Ground.data }], guard := none }) (v := .bool false) rfl (by kernel_rfl) (by kernel_rfl) (by kernel_rfl) (fun _ _ _ h => h) (Or.inl ⟨by rfl, fun w' hs => by go_simp⟩) hH ?_
      simp only [Act.put, List.setIfInBounds_toArray, List.set_cons_zero, List.set_cons_succ]
      refine' wpAnyH_take (i := 3) (oi := { dst := some 35, op := Op.load 23 (Operand.tmp 5), type := 23, pos := "outright.go:129", after := #[{ on := 2, ground := Ground.guard }], guard := some (2, false) }) (v := _) rfl (by kernel_rfl) (by kernel_rfl) (by kernel_rfl) (fun _ _ _ h => h) (yieldsIf_load_mid (by rfl) _ _ rfl _ _ rfl (bkL [f, i, p]) _ (fun w' h => (h.at 1 rfl).all) Tryd.underlying23 rfl infoO) hH ?_
      simp only [Act.put, List.setIfInBounds_toArray, List.set_cons_zero, List.set_cons_succ]
      refine wpAnyH_take (i := 4) (oi := { dst := some 36, op := Op.move (Operand.tmp 3), type := 2, pos := "outright.go:129", after := #[{ on := 2, ground := Ground.guard }], guard := some (2, false) }) (v := .int .i64 s) rfl (by kernel_rfl) (by kernel_rfl) (by kernel_rfl) (fun _ _ _ h => h) (Or.inl ⟨by rfl, fun w' hs => by go_simp⟩) hH ?_
      simp only [Act.put, List.setIfInBounds_toArray, List.set_cons_zero, List.set_cons_succ]
      refine' wpAnyH_take (i := 6) (oi := { dst := some 38, op := Op.load 27 (Operand.tmp 9), type := 27, pos := "outright.go:129", after := #[{ on := 2, ground := Ground.guard }], guard := some (2, false) }) (v := _) rfl (by kernel_rfl) (by kernel_rfl) (by kernel_rfl) (fun _ _ _ h => h) (yieldsIf_load_mid (by rfl) _ _ rfl _ _ rfl (bkL [x, y, z, u, 0]) _ (fun w' h => (h.at 0 rfl).all) Tryd.underlying27 rfl infoP) hH ?_
      simp only [Act.put, List.setIfInBounds_toArray, List.set_cons_zero, List.set_cons_succ]
      refine wpAnyH_take (i := 7) (oi := { dst := some 39, op := Op.move (Operand.tmp 2), type := 2, pos := "outright.go:129", after := #[{ on := 2, ground := Ground.guard }], guard := some (2, false) }) (v := .int .i64 a) rfl (by kernel_rfl) (by kernel_rfl) (by kernel_rfl) (fun _ _ _ h => h) (Or.inl ⟨by rfl, fun w' hs => by go_simp⟩) hH ?_
      simp only [Act.put, List.setIfInBounds_toArray, List.set_cons_zero, List.set_cons_succ]
      refine wpAnyH_ready (rs := [5]) (by kernel_rfl) (by simp) ?_
      refine AllReadyH.cons (o := { dst := some 37, op := Op.call { callee := Callee.value (Operand.func 8), args := #[Operand.tmp 35, Operand.tmp 36], argTypes := #[23, 2] }, type := 34, pos := "outright.go:129", after := #[{ on := 3, ground := Ground.data }, { on := 4, ground := Ground.data }, { on := 2, ground := Ground.chain }, { on := 2, ground := Ground.guard }], guard := some (2, false) }) rfl (fun K hK => ?_) AllReadyH.nil
      go_simp
      refine (LE.out _).mono ?_
      rintro e wa ⟨rfl, ba⟩
      refine hK.out _ _ (hH.call ba) (fun hH => ?_)
      refine wpAnyH_ready (rs := [8]) (by kernel_rfl) (by simp) ?_
      refine AllReadyH.cons (o := { dst := some 40, op := Op.call { callee := Callee.value (Operand.func 7), args := #[Operand.tmp 37, Operand.tmp 38, Operand.tmp 39], argTypes := #[34, 27, 2] }, type := 4, pos := "outright.go:129", after := #[{ on := 5, ground := Ground.data }, { on := 6, ground := Ground.data }, { on := 7, ground := Ground.data }, { on := 5, ground := Ground.chain }, { on := 2, ground := Ground.guard }], guard := some (2, false) }) rfl (fun K hK => ?_) AllReadyH.nil
      go_simp
      refine (PO.out _ hH.bb).mono ?_
      rintro e wb ⟨rfl, bb⟩
      refine hK.out _ _ (hH.call bb) (fun hH => ?_)
      refine wpAnyH_take (i := 9) (oi := { dst := some 41, op := Op.unOp UnOp.not 4 (Operand.tmp 40), type := 4, pos := "outright.go:129", after := #[{ on := 8, ground := Ground.data }, { on := 2, ground := Ground.guard }], guard := some (2, false) }) (v := .bool false) rfl (by kernel_rfl) (by kernel_rfl) (by kernel_rfl) (fun _ _ _ h => h) (Or.inl ⟨by rfl, fun w' hs => by go_simp⟩) hH ?_
      simp only [Act.put, List.setIfInBounds_toArray, List.set_cons_zero, List.set_cons_succ]
      refine wpAnyH_take (i := 10) (oi := { dst := some 42, op := Op.pick (Operand.tmp 34) (Operand.const (Value.bool true)) (Operand.tmp 41), type := 4, pos := "outright.go:129", after := #[{ on := 2, ground := Ground.data }, { on := 9, ground := Ground.data }], guard := none }) (v := .bool false) rfl (by kernel_rfl) (by kernel_rfl) (by kernel_rfl) (fun _ _ _ h => h) (Or.inl ⟨by rfl, fun w' hs => by go_simp⟩) hH ?_
      simp only [Act.put, List.setIfInBounds_toArray, List.set_cons_zero, List.set_cons_succ]
      refine wpAnyH_done (by kernel_rfl) ?_ _
      have K5 : Hid (KB w [(w3.heap.size, 27, bkL [x, y, z, u, 0]), (w.heap.size, 23, bkL [f, i, p])] wb) := hH
      clear hH hK LE PO
      have LE := LE2
      clear LE2
      go_wp2_with fail
      refine (RC.out _).mono ?_
      rintro e w6 ⟨rfl, b6⟩
      have K6 : Hid (KB w [(w3.heap.size, 27, bkL [x, y, z, u, 0]), (w.heap.size, 23, bkL [f, i, p])] w6) := K5.out.call b6
      have Z6 : Hid (Blk w6.heap.size 27 (bkL z5) (w6.alloc z5o)) := Blk.new 27 (bkL z5) w6
      clear RC K5 b6
      go_wp2_with (refine step_store rfl 27 _ _ rfl w6.heap.size 0 27 (bkL z5) (bkL [0, 0, 0, v, q]) rfl rfl Z6.out (Nat.le_refl _) infoP (bkL_one _) ?_; intro w7 nb7 g7; have K7 : Hid (KB w [(w6.heap.size, 27, bkL [0, 0, 0, v, q]), (w3.heap.size, 27, bkL [x, y, z, u, 0]), (w.heap.size, 23, bkL [f, i, p])] w7) := K6.out.put _ nb7 g7; clear nb7 g7 K6 Z6)
      obtain ⟨hqs, hvq⟩ := HQ.out
      by_cases hv0 : v = 0
      · subst hv0
        refine wp_region_held_drew (S := fun w' => KB w [(w6.heap.size, 27, bkL [0, 0, 0, 0, q]), (w3.heap.size, 27, bkL [x, y, z, u, 0]), (w.heap.size, 23, bkL [f, i, p])] w') (by kernel_rfl) (K7.out.drewN 1) (fun hH => ?_)
        refine wpAnyH_take (i := 0) (oi := { dst := some 49, op := Op.move (Operand.tmp 12), type := 28, pos := "outright.go:133", after := #[], guard := none }) (v := .int .i64 0) rfl (by kernel_rfl) (by kernel_rfl) (by kernel_rfl) (fun _ _ _ h => h) (Or.inl ⟨by rfl, fun w' hs => by go_simp⟩) hH ?_
        simp only [Act.put, List.setIfInBounds_toArray, List.set_cons_zero, List.set_cons_succ]
        refine wpAnyH_take (i := 1) (oi := { dst := some 50, op := Op.binOp BinOp.eql 28 (Operand.tmp 49) (Operand.const (Value.int IntKind.i64 0)) 28, type := 4, pos := "outright.go:133", after := #[{ on := 0, ground := Ground.data }], guard := none }) (v := .bool true) rfl (by kernel_rfl) (by kernel_rfl) (by kernel_rfl) (fun _ _ _ h => h) (Or.inl ⟨by rfl, fun w' hs => by go_simp⟩) hH ?_
        simp only [Act.put, List.setIfInBounds_toArray, List.set_cons_zero, List.set_cons_succ]
        refine wpAnyH_take (i := 2) (oi := { dst := some 51, op := Op.move (Operand.tmp 50), type := 4, pos := "outright.go:133", after := #[{ on := 1, ground := Ground.data }], guard := none }) (v := .bool true) rfl (by kernel_rfl) (by kernel_rfl) (by kernel_rfl) (fun _ _ _ h => h) (Or.inl ⟨by rfl, fun w' hs => by go_simp⟩) hH ?_
        simp only [Act.put, List.setIfInBounds_toArray, List.set_cons_zero, List.set_cons_succ]
        refine wpAnyH_take (i := 3) (oi := { dst := some 52, op := Op.fieldAddr 27 (Operand.tmp 11) 4, type := 0, pos := "outright.go:133", after := #[{ on := 2, ground := Ground.guard }], guard := some (2, true) }) (v := .pointer (some ⟨w6.heap.size, 4, none⟩)) rfl (by kernel_rfl) (by kernel_rfl) (by kernel_rfl) (fun _ _ _ h => h) (Or.inl ⟨by rfl, fun w' hs => by go_simp⟩) hH ?_
        simp only [Act.put, List.setIfInBounds_toArray, List.set_cons_zero, List.set_cons_succ]
        refine wpAnyH_take (i := 4) (oi := { dst := some 53, op := Op.load 2 (Operand.tmp 52), type := 2, pos := "outright.go:133", after := #[{ on := 3, ground := Ground.data }, { on := 2, ground := Ground.guard }], guard := some (2, true) }) (v := .int .i64 q) rfl (by kernel_rfl) (by kernel_rfl) (by kernel_rfl) (fun _ _ _ h => h) (Or.inl ⟨by rfl, fun w' hs => by have c := (hs.at 0 rfl).cell 4 _ rfl; go_simp⟩) hH ?_
        simp only [Act.put, List.setIfInBounds_toArray, List.set_cons_zero, List.set_cons_succ]
        refine wpAnyH_take (i := 5) (oi := { dst := some 54, op := Op.move (Operand.tmp 3), type := 2, pos := "outright.go:133", after := #[{ on := 2, ground := Ground.guard }], guard := some (2, true) }) (v := .int .i64 s) rfl (by kernel_rfl) (by kernel_rfl) (by kernel_rfl) (fun _ _ _ h => h) (Or.inl ⟨by rfl, fun w' hs => by go_simp⟩) hH ?_
        simp only [Act.put, List.setIfInBounds_toArray, List.set_cons_zero, List.set_cons_succ]
        refine wpAnyH_take (i := 6) (oi := { dst := some 55, op := Op.binOp BinOp.leq 2 (Operand.tmp 53) (Operand.tmp 54) 2, type := 4, pos := "outright.go:133", after := #[{ on := 4, ground := Ground.data }, { on := 5, ground := Ground.data }, { on := 2, ground := Ground.guard }], guard := some (2, true) }) (v := .bool true) rfl (by kernel_rfl) (by kernel_rfl) (by kernel_rfl) (fun _ _ _ h => h) (Or.inl ⟨by rfl, fun w' hs => by go_simp⟩) hH ?_
        simp only [Act.put, List.setIfInBounds_toArray, List.set_cons_zero, List.set_cons_succ]
        refine wpAnyH_take (i := 7) (oi := { dst := some 56, op := Op.pick (Operand.tmp 51) (Operand.tmp 55) (Operand.const (Value.bool false)), type := 4, pos := "outright.go:133", after := #[{ on := 2, ground := Ground.data }, { on := 6, ground := Ground.data }], guard := none }) (v := .bool true) rfl (by kernel_rfl) (by kernel_rfl) (by kernel_rfl) (fun _ _ _ h => h) (Or.inl ⟨by rfl, fun w' hs => by go_simp⟩) hH ?_
        simp only [Act.put, List.setIfInBounds_toArray, List.set_cons_zero, List.set_cons_succ]
        refine wpAnyH_take (i := 8) (oi := { dst := some 57, op := Op.move (Operand.tmp 56), type := 4, pos := "outright.go:133", after := #[{ on := 7, ground := Ground.data }, { on := 2, ground := Ground.chain }], guard := none }) (v := .bool true) rfl (by kernel_rfl) (by kernel_rfl) (by kernel_rfl) (fun _ _ _ h => h) (Or.inl ⟨by rfl, fun w' hs => by go_simp⟩) hH ?_
        simp only [Act.put, List.setIfInBounds_toArray, List.set_cons_zero, List.set_cons_succ]
        refine wpAnyH_take (i := 9) (oi := { dst := some 58, op := Op.fieldAddr 27 (Operand.tmp 11) 3, type := 0, pos := "outright.go:133", after := #[{ on := 8, ground := Ground.guard }], guard := some (8, true) }) (v := .pointer (some ⟨w6.heap.size, 3, none⟩)) rfl (by kernel_rfl) (by kernel_rfl) (by kernel_rfl) (fun _ _ _ h => h) (Or.inl ⟨by rfl, fun w' hs => by go_simp⟩) hH ?_
        simp only [Act.put, List.setIfInBounds_toArray, List.set_cons_zero, List.set_cons_succ]
        refine wpAnyH_take (i := 10) (oi := { dst := some 59, op := Op.load 2 (Operand.tmp 58), type := 2, pos := "outright.go:133", after := #[{ on := 9, ground := Ground.data }, { on := 8, ground := Ground.guard }], guard := some (8, true) }) (v := .int .i64 0) rfl (by kernel_rfl) (by kernel_rfl) (by kernel_rfl) (fun _ _ _ h => h) (Or.inl ⟨by rfl, fun w' hs => by have c := (hs.at 0 rfl).cell 3 _ rfl; go_simp⟩) hH ?_
        simp only [Act.put, List.setIfInBounds_toArray, List.set_cons_zero, List.set_cons_succ]
        refine wpAnyH_take (i := 11) (oi := { dst := some 60, op := Op.binOp BinOp.eql 2 (Operand.tmp 59) (Operand.const (Value.int IntKind.i64 0)) 2, type := 4, pos := "outright.go:133", after := #[{ on := 10, ground := Ground.data }, { on := 8, ground := Ground.guard }], guard := some (8, true) }) (v := .bool true) rfl (by kernel_rfl) (by kernel_rfl) (by kernel_rfl) (fun _ _ _ h => h) (Or.inl ⟨by rfl, fun w' hs => by go_simp⟩) hH ?_
        simp only [Act.put, List.setIfInBounds_toArray, List.set_cons_zero, List.set_cons_succ]
        refine wpAnyH_take (i := 12) (oi := { dst := some 61, op := Op.move (Operand.tmp 60), type := 4, pos := "outright.go:133", after := #[{ on := 11, ground := Ground.data }, { on := 8, ground := Ground.chain }, { on := 8, ground := Ground.guard }], guard := some (8, true) }) (v := .bool true) rfl (by kernel_rfl) (by kernel_rfl) (by kernel_rfl) (fun _ _ _ h => h) (Or.inl ⟨by rfl, fun w' hs => by go_simp⟩) hH ?_
        simp only [Act.put, List.setIfInBounds_toArray, List.set_cons_zero, List.set_cons_succ]
        refine wpAnyH_take (i := 13) (oi := { dst := some 62, op := Op.fieldAddr 27 (Operand.tmp 11) 4, type := 0, pos := "outright.go:133", after := #[{ on := 12, ground := Ground.guard }], guard := some (12, false) }) (v := undef) rfl (by kernel_rfl) (by kernel_rfl) (by kernel_rfl) (fun _ _ _ h => h) (Or.inr ⟨by rfl, rfl⟩) hH ?_
        simp only [Act.put, List.setIfInBounds_toArray, List.set_cons_zero, List.set_cons_succ]
        refine wpAnyH_take (i := 14) (oi := { dst := some 63, op := Op.load 2 (Operand.tmp 62), type := 2, pos := "outright.go:133", after := #[{ on := 13, ground := Ground.data }, { on := 12, ground := Ground.guard }], guard := some (12, false) }) (v := undef) rfl (by kernel_rfl) (by kernel_rfl) (by kernel_rfl) (fun _ _ _ h => h) (Or.inr ⟨by rfl, rfl⟩) hH ?_
        simp only [Act.put, List.setIfInBounds_toArray, List.set_cons_zero, List.set_cons_succ]
        refine wpAnyH_take (i := 15) (oi := { dst := some 64, op := Op.move (Operand.tmp 3), type := 2, pos := "outright.go:133", after := #[{ on := 12, ground := Ground.guard }], guard := some (12, false) }) (v := undef) rfl (by kernel_rfl) (by kernel_rfl) (by kernel_rfl) (fun _ _ _ h => h) (Or.inr ⟨by rfl, rfl⟩) hH ?_
        simp only [Act.put, List.setIfInBounds_toArray, List.set_cons_zero, List.set_cons_succ]
        refine wpAnyH_take (i := 16) (oi := { dst := some 65, op := Op.binOp BinOp.eql 2 (Operand.tmp 63) (Operand.tmp 64) 2, type := 4, pos := "outright.go:133", after := #[{ on := 14, ground := Ground.data }, { on := 15, ground := Ground.data }, { on := 12, ground := Ground.guard }], guard := some (12, false) }) (v := undef) rfl (by kernel_rfl) (by kernel_rfl) (by kernel_rfl) (fun _ _ _ h => h) (Or.inr ⟨by rfl, rfl⟩) hH ?_
        simp only [Act.put, List.setIfInBounds_toArray, List.set_cons_zero, List.set_cons_succ]
        refine wpAnyH_take (i := 17) (oi := { dst := some 66, op := Op.pick (Operand.tmp 61) (Operand.const (Value.bool true)) (Operand.tmp 65), type := 4, pos := "outright.go:133", after := #[{ on := 12, ground := Ground.data }, { on := 16, ground := Ground.data }, { on := 8, ground := Ground.guard }], guard := some (8, true) }) (v := .bool true) rfl (by kernel_rfl) (by kernel_rfl) (by kernel_rfl) (fun _ _ _ h => h) (Or.inl ⟨by rfl, fun w' hs => by go_simp⟩) hH ?_
        simp only [Act.put, List.setIfInBounds_toArray, List.set_cons_zero, List.set_cons_succ]
        refine wpAnyH_take (i := 18) (oi := { dst := some 67, op := Op.pick (Operand.tmp 57) (Operand.tmp 66) (Operand.const (Value.bool false)), type := 4, pos := "outright.go:133", after := #[{ on := 8, ground := Ground.data }, { on := 17, ground := Ground.data }], guard := none }) (v := .bool true) rfl (by kernel_rfl) (by kernel_rfl) (by kernel_rfl) (fun _ _ _ h => h) (Or.inl ⟨by rfl, fun w' hs => by go_simp⟩) hH ?_
        simp only [Act.put, List.setIfInBounds_toArray, List.set_cons_zero, List.set_cons_succ]
        refine wpAnyH_take (i := 19) (oi := { dst := some 68, op := Op.move (Operand.tmp 67), type := 4, pos := "outright.go:133", after := #[{ on := 18, ground := Ground.data }, { on := 12, ground := Ground.chain }], guard := none }) (v := .bool true) rfl (by kernel_rfl) (by kernel_rfl) (by kernel_rfl) (fun _ _ _ h => h) (Or.inl ⟨by rfl, fun w' hs => by go_simp⟩) hH ?_
        simp only [Act.put, List.setIfInBounds_toArray, List.set_cons_zero, List.set_cons_succ]
        refine' wpAnyH_take (i := 20) (oi := { dst := some 69, op := Op.load 23 (Operand.tmp 5), type := 23, pos := "outright.go:133", after := #[{ on := 19, ground := Ground.guard }], guard := some (19, true) }) (v := _) rfl (by kernel_rfl) (by kernel_rfl) (by kernel_rfl) (fun _ _ _ h => h) (yieldsIf_load_mid (by rfl) _ _ rfl _ _ rfl (bkL [f, i, p]) _ (fun w' h => (h.at 2 rfl).all) Tryd.underlying23 rfl infoO) hH ?_
        simp only [Act.put, List.setIfInBounds_toArray, List.set_cons_zero, List.set_cons_succ]
        refine wpAnyH_take (i := 21) (oi := { dst := some 70, op := Op.move (Operand.tmp 3), type := 2, pos := "outright.go:133", after := #[{ on := 19, ground := Ground.guard }], guard := some (19, true) }) (v := .int .i64 s) rfl (by kernel_rfl) (by kernel_rfl) (by kernel_rfl) (fun _ _ _ h => h) (Or.inl ⟨by rfl, fun w' hs => by go_simp⟩) hH ?_
        simp only [Act.put, List.setIfInBounds_toArray, List.set_cons_zero, List.set_cons_succ]
        refine' wpAnyH_take (i := 23) (oi := { dst := some 72, op := Op.load 27 (Operand.tmp 11), type := 27, pos := "outright.go:133", after := #[{ on := 19, ground := Ground.guard }], guard := some (19, true) }) (v := _) rfl (by kernel_rfl) (by kernel_rfl) (by kernel_rfl) (fun _ _ _ h => h) (yieldsIf_load_mid (by rfl) _ _ rfl _ _ rfl (bkL [0, 0, 0, 0, q]) _ (fun w' h => (h.at 0 rfl).all) Tryd.underlying27 rfl infoP) hH ?_
        simp only [Act.put, List.setIfInBounds_toArray, List.set_cons_zero, List.set_cons_succ]
        refine wpAnyH_take (i := 24) (oi := { dst := some 73, op := Op.move (Operand.tmp 2), type := 2, pos := "outright.go:133", after := #[{ on := 19, ground := Ground.guard }], guard := some (19, true) }) (v := .int .i64 a) rfl (by kernel_rfl) (by kernel_rfl) (by kernel_rfl) (fun _ _ _ h => h) (Or.inl ⟨by rfl, fun w' hs => by go_simp⟩) hH ?_
        simp only [Act.put, List.setIfInBounds_toArray, List.set_cons_zero, List.set_cons_succ]
        refine wpAnyH_ready (rs := [22]) (by kernel_rfl) (by simp) ?_
        refine AllReadyH.cons (o := { dst := some 71, op := Op.call { callee := Callee.value (Operand.func 8), args := #[Operand.tmp 69, Operand.tmp 70], argTypes := #[23, 2] }, type := 34, pos := "outright.go:133", after := #[{ on := 20, ground := Ground.data }, { on := 21, ground := Ground.data }, { on := 19, ground := Ground.chain }, { on := 19, ground := Ground.guard }], guard := some (19, true) }) rfl (fun K hK => ?_) AllReadyH.nil
        go_simp
        refine (LE.out _).mono ?_
        rintro e wa ⟨rfl, ba⟩
        refine hK.out _ _ (hH.call ba) (fun hH => ?_)
        refine wpAnyH_ready (rs := [25]) (by kernel_rfl) (by simp) ?_
        refine AllReadyH.cons (o := { dst := some 74, op := Op.call { callee := Callee.value (Operand.func 7), args := #[Operand.tmp 71, Operand.tmp 72, Operand.tmp 73], argTypes := #[34, 27, 2] }, type := 4, pos := "outright.go:133", after := #[{ on := 22, ground := Ground.data }, { on := 23, ground := Ground.data }, { on := 24, ground := Ground.data }, { on := 22, ground := Ground.chain }, { on := 19, ground := Ground.guard }], guard := some (19, true) }) rfl (fun K hK => ?_) AllReadyH.nil
        go_simp
        refine (PO2.out _ hH.bb).mono ?_
        rintro e wb ⟨rfl, bb⟩
        refine hK.out _ _ (hH.call bb) (fun hH => ?_)
        refine wpAnyH_take (i := 26) (oi := { dst := some 75, op := Op.pick (Operand.tmp 68) (Operand.tmp 74) (Operand.const (Value.bool false)), type := 4, pos := "outright.go:133", after := #[{ on := 19, ground := Ground.data }, { on := 25, ground := Ground.data }], guard := none }) (v := .bool true) rfl (by kernel_rfl) (by kernel_rfl) (by kernel_rfl) (fun _ _ _ h => h) (Or.inl ⟨by rfl, fun w' hs => by go_simp⟩) hH ?_
        simp only [Act.put, List.setIfInBounds_toArray, List.set_cons_zero, List.set_cons_succ]
        refine wpAnyH_take (i := 27) (oi := { dst := some 8, op := Op.assign (Operand.tmp 75), type := 4, pos := "outright.go:133", after := #[{ on := 26, ground := Ground.data }, { on := 25, ground := Ground.chain }, { on := 0, ground := Ground.phase }, { on := 1, ground := Ground.phase }, { on := 2, ground := Ground.phase }, { on := 3, ground := Ground.phase }, { on := 4, ground := Ground.phase }, { on := 5, ground := Ground.phase }, { on := 6, ground := Ground.phase }, { on := 7, ground := Ground.phase }, { on := 8, ground := Ground.phase }, { on := 9, ground := Ground.phase }, { on := 10, ground := Ground.phase }, { on := 11, ground := Ground.phase }, { on := 12, ground := Ground.phase }, { on := 13, ground := Ground.phase }, { on := 14, ground := Ground.phase }, { on := 15, ground := Ground.phase }, { on := 16, ground := Ground.phase }, { on := 17, ground := Ground.phase }, { on := 18, ground := Ground.phase }, { on := 19, ground := Ground.phase }, { on := 20, ground := Ground.phase }, { on := 21, ground := Ground.phase }, { on := 22, ground := Ground.phase }, { on := 23, ground := Ground.phase }, { on := 24, ground := Ground.phase }, { on := 25, ground := Ground.phase }, { on := 26, ground := Ground.phase }], guard := none }) (v := .bool true) rfl (by kernel_rfl) (by kernel_rfl) (by kernel_rfl) (fun _ _ _ h => h) (Or.inl ⟨by rfl, fun w' hs => by go_simp⟩) hH ?_
        simp only [Act.put, List.setIfInBounds_toArray, List.set_cons_zero, List.set_cons_succ]
        refine wpAnyH_done (by kernel_rfl) ?_ _
        have K8 : Hid (Below w.heap.size w wb) := hH.bb
        clear hH hK LE PO2
        go_wp2_with fail
        go_ret
        exact ⟨rfl, K8.out⟩
      · obtain rfl : s = q := by omega
        refine wp_region_held_drew (S := fun w' => KB w [(w6.heap.size, 27, bkL [0, 0, 0, v, s]), (w3.heap.size, 27, bkL [x, y, z, u, 0]), (w.heap.size, 23, bkL [f, i, p])] w') (by kernel_rfl) (K7.out.drewN 1) (fun hH => ?_)
        refine wpAnyH_take (i := 0) (oi := { dst := some 49, op := Op.move (Operand.tmp 12), type := 28, pos := "outright.go:133", after := #[], guard := none }) (v := .int .i64 0) rfl (by kernel_rfl) (by kernel_rfl) (by kernel_rfl) (fun _ _ _ h => h) (Or.inl ⟨by rfl, fun w' hs => by go_simp⟩) hH ?_
        simp only [Act.put, List.setIfInBounds_toArray, List.set_cons_zero, List.set_cons_succ]
        refine wpAnyH_take (i := 1) (oi := { dst := some 50, op := Op.binOp BinOp.eql 28 (Operand.tmp 49) (Operand.const (Value.int IntKind.i64 0)) 28, type := 4, pos := "outright.go:133", after := #[{ on := 0, ground := Ground.data }], guard := none }) (v := .bool true) rfl (by kernel_rfl) (by kernel_rfl) (by kernel_rfl) (fun _ _ _ h => h) (Or.inl ⟨by rfl, fun w' hs => by go_simp⟩) hH ?_
        simp only [Act.put, List.setIfInBounds_toArray, List.set_cons_zero, List.set_cons_succ]
        refine wpAnyH_take (i := 2) (oi := { dst := some 51, op := Op.move (Operand.tmp 50), type := 4, pos := "outright.go:133", after := #[{ on := 1, ground := Ground.data }], guard := none }) (v := .bool true) rfl (by kernel_rfl) (by kernel_rfl) (by kernel_rfl) (fun _ _ _ h => h) (Or.inl ⟨by rfl, fun w' hs => by go_simp⟩) hH ?_
        simp only [Act.put, List.setIfInBounds_toArray, List.set_cons_zero, List.set_cons_succ]
        refine wpAnyH_take (i := 3) (oi := { dst := some 52, op := Op.fieldAddr 27 (Operand.tmp 11) 4, type := 0, pos := "outright.go:133", after := #[{ on := 2, ground := Ground.guard }], guard := some (2, true) }) (v := .pointer (some ⟨w6.heap.size, 4, none⟩)) rfl (by kernel_rfl) (by kernel_rfl) (by kernel_rfl) (fun _ _ _ h => h) (Or.inl ⟨by rfl, fun w' hs => by go_simp⟩) hH ?_
        simp only [Act.put, List.setIfInBounds_toArray, List.set_cons_zero, List.set_cons_succ]
        refine wpAnyH_take (i := 4) (oi := { dst := some 53, op := Op.load 2 (Operand.tmp 52), type := 2, pos := "outright.go:133", after := #[{ on := 3, ground := Ground.data }, { on := 2, ground := Ground.guard }], guard := some (2, true) }) (v := .int .i64 s) rfl (by kernel_rfl) (by kernel_rfl) (by kernel_rfl) (fun _ _ _ h => h) (Or.inl ⟨by rfl, fun w' hs => by have c := (hs.at 0 rfl).cell 4 _ rfl; go_simp⟩) hH ?_
        simp only [Act.put, List.setIfInBounds_toArray, List.set_cons_zero, List.set_cons_succ]
        refine wpAnyH_take (i := 5) (oi := { dst := some 54, op := Op.move (Operand.tmp 3), type := 2, pos := "outright.go:133", after := #[{ on := 2, ground := Ground.guard }], guard := some (2, true) }) (v := .int .i64 s) rfl (by kernel_rfl) (by kernel_rfl) (by kernel_rfl) (fun _ _ _ h => h) (Or.inl ⟨by rfl, fun w' hs => by go_simp⟩) hH ?_
        simp only [Act.put, List.setIfInBounds_toArray, List.set_cons_zero, List.set_cons_succ]
        refine wpAnyH_take (i := 6) (oi := { dst := some 55, op := Op.binOp BinOp.leq 2 (Operand.tmp 53) (Operand.tmp 54) 2, type := 4, pos := "outright.go:133", after := #[{ on := 4, ground := Ground.data }, { on := 5, ground := Ground.data }, { on := 2, ground := Ground.guard }], guard := some (2, true) }) (v := .bool true) rfl (by kernel_rfl) (by kernel_rfl) (by kernel_rfl) (fun _ _ _ h => h) (Or.inl ⟨by rfl, fun w' hs => by go_simp⟩) hH ?_
        simp only [Act.put, List.setIfInBounds_toArray, List.set_cons_zero, List.set_cons_succ]
        refine wpAnyH_take (i := 7) (oi := { dst := some 56, op := Op.pick (Operand.tmp 51) (Operand.tmp 55) (Operand.const (Value.bool false)), type := 4, pos := "outright.go:133", after := #[{ on := 2, ground := Ground.data }, { on := 6, ground := Ground.data }], guard := none }) (v := .bool true) rfl (by kernel_rfl) (by kernel_rfl) (by kernel_rfl) (fun _ _ _ h => h) (Or.inl ⟨by rfl, fun w' hs => by go_simp⟩) hH ?_
        simp only [Act.put, List.setIfInBounds_toArray, List.set_cons_zero, List.set_cons_succ]
        refine wpAnyH_take (i := 8) (oi := { dst := some 57, op := Op.move (Operand.tmp 56), type := 4, pos := "outright.go:133", after := #[{ on := 7, ground := Ground.data }, { on := 2, ground := Ground.chain }], guard := none }) (v := .bool true) rfl (by kernel_rfl) (by kernel_rfl) (by kernel_rfl) (fun _ _ _ h => h) (Or.inl ⟨by rfl, fun w' hs => by go_simp⟩) hH ?_
        simp only [Act.put, List.setIfInBounds_toArray, List.set_cons_zero, List.set_cons_succ]
        refine wpAnyH_take (i := 9) (oi := { dst := some 58, op := Op.fieldAddr 27 (Operand.tmp 11) 3, type := 0, pos := "outright.go:133", after := #[{ on := 8, ground := Ground.guard }], guard := some (8, true) }) (v := .pointer (some ⟨w6.heap.size, 3, none⟩)) rfl (by kernel_rfl) (by kernel_rfl) (by kernel_rfl) (fun _ _ _ h => h) (Or.inl ⟨by rfl, fun w' hs => by go_simp⟩) hH ?_
        simp only [Act.put, List.setIfInBounds_toArray, List.set_cons_zero, List.set_cons_succ]
        refine wpAnyH_take (i := 10) (oi := { dst := some 59, op := Op.load 2 (Operand.tmp 58), type := 2, pos := "outright.go:133", after := #[{ on := 9, ground := Ground.data }, { on := 8, ground := Ground.guard }], guard := some (8, true) }) (v := .int .i64 v) rfl (by kernel_rfl) (by kernel_rfl) (by kernel_rfl) (fun _ _ _ h => h) (Or.inl ⟨by rfl, fun w' hs => by have c := (hs.at 0 rfl).cell 3 _ rfl; go_simp⟩) hH ?_
        simp only [Act.put, List.setIfInBounds_toArray, List.set_cons_zero, List.set_cons_succ]
        refine wpAnyH_take (i := 11) (oi := { dst := some 60, op := Op.binOp BinOp.eql 2 (Operand.tmp 59) (Operand.const (Value.int IntKind.i64 0)) 2, type := 4, pos := "outright.go:133", after := #[{ on := 10, ground := Ground.data }, { on := 8, ground := Ground.guard }], guard := some (8, true) }) (v := .bool false) rfl (by kernel_rfl) (by kernel_rfl) (by kernel_rfl) (fun _ _ _ h => h) (Or.inl ⟨by rfl, fun w' hs => by go_simp⟩) hH ?_
        simp only [Act.put, List.setIfInBounds_toArray, List.set_cons_zero, List.set_cons_succ]
        refine wpAnyH_take (i := 12) (oi := { dst := some 61, op := Op.move (Operand.tmp 60), type := 4, pos := "outright.go:133", after := #[{ on := 11, ground := Ground.data }, { on := 8, ground := Ground.chain }, { on := 8, ground := Ground.guard }], guard := some (8, true) }) (v := .bool false) rfl (by kernel_rfl) (by kernel_rfl) (by kernel_rfl) (fun _ _ _ h => h) (Or.inl ⟨by rfl, fun w' hs => by go_simp⟩) hH ?_
        simp only [Act.put, List.setIfInBounds_toArray, List.set_cons_zero, List.set_cons_succ]
        refine wpAnyH_take (i := 13) (oi := { dst := some 62, op := Op.fieldAddr 27 (Operand.tmp 11) 4, type := 0, pos := "outright.go:133", after := #[{ on := 12, ground := Ground.guard }], guard := some (12, false) }) (v := .pointer (some ⟨w6.heap.size, 4, none⟩)) rfl (by kernel_rfl) (by kernel_rfl) (by kernel_rfl) (fun _ _ _ h => h) (Or.inl ⟨by rfl, fun w' hs => by go_simp⟩) hH ?_
        simp only [Act.put, List.setIfInBounds_toArray, List.set_cons_zero, List.set_cons_succ]
        refine wpAnyH_take (i := 14) (oi := { dst := some 63, op := Op.load 2 (Operand.tmp 62), type := 2, pos := "outright.go:133", after := #[{ on := 13, ground := Ground.data }, { on := 12, ground := Ground.guard }], guard := some (12, false) }) (v := .int .i64 s) rfl (by kernel_rfl) (by kernel_rfl) (by kernel_rfl) (fun _ _ _ h => h) (Or.inl ⟨by rfl, fun w' hs => by have c := (hs.at 0 rfl).cell 4 _ rfl; go_simp⟩) hH ?_
        simp only [Act.put, List.setIfInBounds_toArray, List.set_cons_zero, List.set_cons_succ]
        refine wpAnyH_take (i := 15) (oi := { dst := some 64, op := Op.move (Operand.tmp 3), type := 2, pos := "outright.go:133", after := #[{ on := 12, ground := Ground.guard }], guard := some (12, false) }) (v := .int .i64 s) rfl (by kernel_rfl) (by kernel_rfl) (by kernel_rfl) (fun _ _ _ h => h) (Or.inl ⟨by rfl, fun w' hs => by go_simp⟩) hH ?_
        simp only [Act.put, List.setIfInBounds_toArray, List.set_cons_zero, List.set_cons_succ]
        refine wpAnyH_take (i := 16) (oi := { dst := some 65, op := Op.binOp BinOp.eql 2 (Operand.tmp 63) (Operand.tmp 64) 2, type := 4, pos := "outright.go:133", after := #[{ on := 14, ground := Ground.data }, { on := 15, ground := Ground.data }, { on := 12, ground := Ground.guard }], guard := some (12, false) }) (v := .bool true) rfl (by kernel_rfl) (by kernel_rfl) (by kernel_rfl) (fun _ _ _ h => h) (Or.inl ⟨by rfl, fun w' hs => by go_simp⟩) hH ?_
        simp only [Act.put, List.setIfInBounds_toArray, List.set_cons_zero, List.set_cons_succ]
        refine wpAnyH_take (i := 17) (oi := { dst := some 66, op := Op.pick (Operand.tmp 61) (Operand.const (Value.bool true)) (Operand.tmp 65), type := 4, pos := "outright.go:133", after := #[{ on := 12, ground := Ground.data }, { on := 16, ground := Ground.data }, { on := 8, ground := Ground.guard }], guard := some (8, true) }) (v := .bool true) rfl (by kernel_rfl) (by kernel_rfl) (by kernel_rfl) (fun _ _ _ h => h) (Or.inl ⟨by rfl, fun w' hs => by go_simp⟩) hH ?_
        simp only [Act.put, List.setIfInBounds_toArray, List.set_cons_zero, List.set_cons_succ]
        refine wpAnyH_take (i := 18) (oi := { dst := some 67, op := Op.pick (Operand.tmp 57) (Operand.tmp 66) (Operand.const (Value.bool false)), type := 4, pos := "outright.go:133", after := #[{ on := 8, ground := Ground.data }, { on := 17, ground := Ground.data }], guard := none }) (v := .bool true) rfl (by kernel_rfl) (by kernel_rfl) (by kernel_rfl) (fun _ _ _ h => h) (Or.inl ⟨by rfl, fun w' hs => by go_simp⟩) hH ?_
        simp only [Act.put, List.setIfInBounds_toArray, List.set_cons_zero, List.set_cons_succ]
        refine wpAnyH_take (i := 19) (oi := { dst := some 68, op := Op.move (Operand.tmp 67), type := 4, pos := "outright.go:133", after := #[{ on := 18, ground := Ground.data }, { on := 12, ground := Ground.chain }], guard := none }) (v := .bool true) rfl (by kernel_rfl) (by kernel_rfl) (by kernel_rfl) (fun _ _ _ h => h) (Or.inl ⟨by rfl, fun w' hs => by go_simp⟩) hH ?_
        simp only [Act.put, List.setIfInBounds_toArray, List.set_cons_zero, List.set_cons_succ]
        refine' wpAnyH_take (i := 20) (oi := { dst := some 69, op := Op.load 23 (Operand.tmp 5), type := 23, pos := "outright.go:133", after := #[{ on := 19, ground := Ground.guard }], guard := some (19, true) }) (v := _) rfl (by kernel_rfl) (by kernel_rfl) (by kernel_rfl) (fun _ _ _ h => h) (yieldsIf_load_mid (by rfl) _ _ rfl _ _ rfl (bkL [f, i, p]) _ (fun w' h => (h.at 2 rfl).all) Tryd.underlying23 rfl infoO) hH ?_
        simp only [Act.put, List.setIfInBounds_toArray, List.set_cons_zero, List.set_cons_succ]
        refine wpAnyH_take (i := 21) (oi := { dst := some 70, op := Op.move (Operand.tmp 3), type := 2, pos := "outright.go:133", after := #[{ on := 19, ground := Ground.guard }], guard := some (19, true) }) (v := .int .i64 s) rfl (by kernel_rfl) (by kernel_rfl) (by kernel_rfl) (fun _ _ _ h => h) (Or.inl ⟨by rfl, fun w' hs => by go_simp⟩) hH ?_
        simp only [Act.put, List.setIfInBounds_toArray, List.set_cons_zero, List.set_cons_succ]
        refine' wpAnyH_take (i := 23) (oi := { dst := some 72, op := Op.load 27 (Operand.tmp 11), type := 27, pos := "outright.go:133", after := #[{ on := 19, ground := Ground.guard }], guard := some (19, true) }) (v := _) rfl (by kernel_rfl) (by kernel_rfl) (by kernel_rfl) (fun _ _ _ h => h) (yieldsIf_load_mid (by rfl) _ _ rfl _ _ rfl (bkL [0, 0, 0, v, s]) _ (fun w' h => (h.at 0 rfl).all) Tryd.underlying27 rfl infoP) hH ?_
        simp only [Act.put, List.setIfInBounds_toArray, List.set_cons_zero, List.set_cons_succ]
        refine wpAnyH_take (i := 24) (oi := { dst := some 73, op := Op.move (Operand.tmp 2), type := 2, pos := "outright.go:133", after := #[{ on := 19, ground := Ground.guard }], guard := some (19, true) }) (v := .int .i64 a) rfl (by kernel_rfl) (by kernel_rfl) (by kernel_rfl) (fun _ _ _ h => h) (Or.inl ⟨by rfl, fun w' hs => by go_simp⟩) hH ?_
        simp only [Act.put, List.setIfInBounds_toArray, List.set_cons_zero, List.set_cons_succ]
        refine wpAnyH_ready (rs := [22]) (by kernel_rfl) (by simp) ?_
        refine AllReadyH.cons (o := { dst := some 71, op := Op.call { callee := Callee.value (Operand.func 8), args := #[Operand.tmp 69, Operand.tmp 70], argTypes := #[23, 2] }, type := 34, pos := "outright.go:133", after := #[{ on := 20, ground := Ground.data }, { on := 21, ground := Ground.data }, { on := 19, ground := Ground.chain }, { on := 19, ground := Ground.guard }], guard := some (19, true) }) rfl (fun K hK => ?_) AllReadyH.nil
        go_simp
        refine (LE.out _).mono ?_
        rintro e wa ⟨rfl, ba⟩
        refine hK.out _ _ (hH.call ba) (fun hH => ?_)
        refine wpAnyH_ready (rs := [25]) (by kernel_rfl) (by simp) ?_
        refine AllReadyH.cons (o := { dst := some 74, op := Op.call { callee := Callee.value (Operand.func 7), args := #[Operand.tmp 71, Operand.tmp 72, Operand.tmp 73], argTypes := #[34, 27, 2] }, type := 4, pos := "outright.go:133", after := #[{ on := 22, ground := Ground.data }, { on := 23, ground := Ground.data }, { on := 24, ground := Ground.data }, { on := 22, ground := Ground.chain }, { on := 19, ground := Ground.guard }], guard := some (19, true) }) rfl (fun K hK => ?_) AllReadyH.nil
        go_simp
        refine (PO2.out _ hH.bb).mono ?_
        rintro e wb ⟨rfl, bb⟩
        refine hK.out _ _ (hH.call bb) (fun hH => ?_)
        refine wpAnyH_take (i := 26) (oi := { dst := some 75, op := Op.pick (Operand.tmp 68) (Operand.tmp 74) (Operand.const (Value.bool false)), type := 4, pos := "outright.go:133", after := #[{ on := 19, ground := Ground.data }, { on := 25, ground := Ground.data }], guard := none }) (v := .bool true) rfl (by kernel_rfl) (by kernel_rfl) (by kernel_rfl) (fun _ _ _ h => h) (Or.inl ⟨by rfl, fun w' hs => by go_simp⟩) hH ?_
        simp only [Act.put, List.setIfInBounds_toArray, List.set_cons_zero, List.set_cons_succ]
        refine wpAnyH_take (i := 27) (oi := { dst := some 8, op := Op.assign (Operand.tmp 75), type := 4, pos := "outright.go:133", after := #[{ on := 26, ground := Ground.data }, { on := 25, ground := Ground.chain }, { on := 0, ground := Ground.phase }, { on := 1, ground := Ground.phase }, { on := 2, ground := Ground.phase }, { on := 3, ground := Ground.phase }, { on := 4, ground := Ground.phase }, { on := 5, ground := Ground.phase }, { on := 6, ground := Ground.phase }, { on := 7, ground := Ground.phase }, { on := 8, ground := Ground.phase }, { on := 9, ground := Ground.phase }, { on := 10, ground := Ground.phase }, { on := 11, ground := Ground.phase }, { on := 12, ground := Ground.phase }, { on := 13, ground := Ground.phase }, { on := 14, ground := Ground.phase }, { on := 15, ground := Ground.phase }, { on := 16, ground := Ground.phase }, { on := 17, ground := Ground.phase }, { on := 18, ground := Ground.phase }, { on := 19, ground := Ground.phase }, { on := 20, ground := Ground.phase }, { on := 21, ground := Ground.phase }, { on := 22, ground := Ground.phase }, { on := 23, ground := Ground.phase }, { on := 24, ground := Ground.phase }, { on := 25, ground := Ground.phase }, { on := 26, ground := Ground.phase }], guard := none }) (v := .bool true) rfl (by kernel_rfl) (by kernel_rfl) (by kernel_rfl) (fun _ _ _ h => h) (Or.inl ⟨by rfl, fun w' hs => by go_simp⟩) hH ?_
        simp only [Act.put, List.setIfInBounds_toArray, List.set_cons_zero, List.set_cons_succ]
        refine wpAnyH_done (by kernel_rfl) ?_ _
        have K8 : Hid (Below w.heap.size w wb) := hH.bb
        clear hH hK LE PO2
        go_wp2_with fail
        go_ret
        exact ⟨rfl, K8.out⟩
end Go.Proofs.YtplebplpachgiabDoor
