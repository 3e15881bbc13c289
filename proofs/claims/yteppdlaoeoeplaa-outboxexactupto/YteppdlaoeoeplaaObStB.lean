/-
  Ours: the statement's step: Ack (gen_obb.py).
-/
import Derived.Test.YteppdlaoeoeplaaObStA
namespace Go.Proofs.Yteppdlaoeoeplaa
open Go.RowKit ObM LedM PolM
set_option linter.unusedSimpArgs false


set_option maxRecDepth 40000 in
set_option maxHeartbeats 4000000 in
theorem step_ack (R bm : Nat) (B T : Nat → Prop) (lb l : List Int) (s : Value) (L ys : List En) (a : Option Addr) (n c : Nat) (o : Oc) (xa : Option Addr) (xc : Nat) (m : Int) (w : World) (h : BoxV R bm B lb L w) (hr : RL T w a n c ys) (k2 : o.kd = 2) (hl : ys.length ≤ 1000000000) (hT : ∀ g, T g → g ≠ bm) (he : (lk L o.id).isSome = (lk ys o.id).isSome) :
    Calls Try.prog 12 #[.agg (polL l s).toArray, .agg #[.pointer (some ⟨R, 0, none⟩), .slice a n c], .agg (ocL o xa xc).toArray, .int .u8 m] w (StAns R bm B T lb w (wipe L o.id) (wipe ys o.id) B) := by
  have FIN : Hid (∀ a' n' c' w' T', OPost R bm B lb w (wipe L o.id) B w' → RL T' w' a' n' c' (wipe ys o.id) → (∀ g, T' g → T g ∨ w.heap.size ≤ g) → StAns R bm B T lb w (wipe L o.id) (wipe ys o.id) B (.returned (.tuple #[.agg #[.pointer (some ⟨R, 0, none⟩), .slice a' n' c'], .bool true, .agg #[.slice none 0 0, .slice none 0 0]])) w') := fun a' n' c' w' T' p q r => ⟨a', n', c', T', rfl, p, q, r⟩
  generalize StAns R bm B T lb w (wipe L o.id) (wipe ys o.id) B = PP at *
  have HT : Hid (∀ g, T g → g ≠ bm) := hT
  have HBM : Hid (bm < w.heap.size) := h.mp.lt
  have FAR : Hid (∀ G, w.heap.size ≤ G → G ≠ R ∧ G ≠ bm ∧ ¬ B G) := fun G hG => ⟨by have := h.blk.lt; omega, by have := h.mp.lt; omega, fun q => by have := (h.b G q).1; omega⟩
  obtain ⟨bb, hbb⟩ : ∃ bb, (lk ys o.id).isSome = bb := ⟨_, rfl⟩
  have ACK : Hid (∀ w', Below w.heap.size w w' → Calls Try.prog 20 #[.pointer (some ⟨R, 0, none⟩), .int .i64 o.id] w' fun e w'' => e = .returned (.bool bb) ∧ OPost R bm B lb w' (wipe L o.id) B w'') := fun w' b => by
    have := ack_at R bm B lb L o.id w' (h.below b)
    rwa [he, hbb] at this
  have RACK : Hid (∀ w', RL T w' a n c ys → Calls Try.prog 21 #[.agg #[.slice a n c], .int .i64 o.id] w' fun e w'' => ∃ a' m' c', e = .returned (.tuple #[.agg #[.slice a' m' c'], .bool bb]) ∧ RfAns T w' (wipe ys o.id) a' m' c' w'') := fun w' q => by
    have := rack_at T ys a n c o.id w' q hl
    rwa [hbb] at this
  clear he hl hT hbb
  have W0 : Hid (BoxV R bm B lb L w ∧ RL T w a n c ys) := ⟨h, hr⟩
  have e1 : (o.kd == 1) = false := by rw [k2]; rfl
  have e2 : (o.kd == 2) = true := by rw [k2]; rfl
  have e3 : (bb == bb) = true := by simp
  clear k2
  obtain ⟨Q, hQ⟩ : ∃ Q, w.heap.size = Q := ⟨_, rfl⟩
  have HQ : Hid (w.heap.size = Q) := hQ
  obtain ⟨w0, hw0⟩ : ∃ w0, w.alloc (.cells (polL l s).toArray 24) = w0 := ⟨_, rfl⟩
  obtain ⟨w1, hw1⟩ : ∃ w1, ((((w0.alloc (.cells #[.pointer (some ⟨R, 0, none⟩), .slice a n c] 39)).alloc (.cells (ocL o xa xc).toArray 30)).alloc (.cells #[.pointer none, .slice none 0 0] 39)).alloc (.cells #[.slice none 0 0, .slice none 0 0] 45)) = w1 := ⟨_, rfl⟩
  have eQ : w0.heap.size = Q + 1 := by rw [← hw0, ← hQ]; simp
  have S1 : Hid (SB Q l s R (.slice a n c) o xa xc w1 ∧ Below w.heap.size w w1) := by
    rw [← hw1, ← hw0, ← hQ]
    exact SB.new w
  clear h hr
  go_enter Try.func12, Try.ntmps12
  go_upto_region 1 with fail
  clear hQ hw1 hw0 eQ
  have c0 := S1.out.1.o.cell 0 _ rfl
  have lt2 := S1.out.1.o.lt
  have x0 := S1.out.1.x.cell 0 _ rfl
  have lt1 := S1.out.1.x.lt
  have o2 := S1.out.1.o.cell 2 _ rfl
  go_wp2_with fail
  refine (ACK.out _ S1.out.2).mono ?_
  rintro e w4 ⟨rfl, p4⟩
  have S4 : Hid (SB Q l s R (.slice a n c) o xa xc w4 ∧ OPost R bm B lb w (wipe L o.id) B w4 ∧ RL T w4 a n c ys) := by
    refine ⟨S1.out.1.kp p4.k (fun g q _ e => by have := HBM.out; have := HQ.out; omega), (OPost.refl W0.out.1 S1.out.2).trans p4, (W0.out.2.below S1.out.2).kp p4.k (fun g q e => HT.out g q e)⟩
  clear p4 c0 lt2 x0 lt1 o2 ACK
  have x0 := S4.out.1.x.cell 0 _ rfl
  have lt1 := S4.out.1.x.lt
  have lt2 := S4.out.1.o.lt
  have o2 := S4.out.1.o.cell 2 _ rfl
  go_wp2_with (refine step_load rfl 37 _ rfl (Q + 1) 1 rfl [.slice a n c] _ (S4.out.1.x.range 1 1) Try.underlying37 rfl sizeRB ?_)
  refine (RACK.out _ S4.out.2.2).mono ?_
  rintro e w5 ⟨a5, n5, c5, rfl, T5, r5, t5, b5⟩
  have S5 : Hid (SB Q l s R (.slice a n c) o xa xc w5 ∧ OPost R bm B lb w (wipe L o.id) B w5 ∧ RL T5 w5 a5 n5 c5 (wipe ys o.id) ∧ (∀ g, T5 g → T g ∨ w4.heap.size ≤ g)) := ⟨S4.out.1.kp (Kp.of_below b5 (fun _ => False)) (fun _ _ _ q => q), S4.out.2.1.trans (OPost.refl S4.out.2.1.box b5), r5, t5⟩
  have Q4 : Hid (Q + 4 < w4.heap.size) := S4.out.1.z.lt
  clear r5 t5 b5 x0 lt1 lt2 o2 RACK
  have lt1 := S5.out.1.x.lt
  go_upto_region 21 with ((with_reducible refine at_store ?_); refine step_store rfl 37 _ _ rfl (Q + 1) 1 39 [.pointer (some ⟨R, 0, none⟩), .slice a n c] [.slice a5 n5 c5] rfl rfl S5.out.1.x (show 1 + 1 ≤ 2 by decide) sizeRB (oneS _ _ _) ?_; intro w6 nb6 g6)
  have far6 : ∀ g, T5 g → g ≠ Q + 1 := fun g q e => by
    subst e
    rcases S5.out.2.2.2 _ q with h | h
    · have := W0.out.2.lt _ h; have := HQ.out; omega
    · have := Q4.out; omega
  have S6 : Hid (Blk (Q + 1) 39 [.pointer (some ⟨R, 0, none⟩), .slice a5 n5 c5] w6 ∧ Blk (Q + 3) 39 [.pointer none, .slice none 0 0] w6 ∧ Blk (Q + 4) 45 [.slice none 0 0, .slice none 0 0] w6 ∧ OPost R bm B lb w (wipe L o.id) B w6 ∧ RL T5 w6 a5 n5 c5 (wipe ys o.id)) :=
    ⟨nb6, S5.out.1.y.grown g6 (fun q => by injection q with q; omega), S5.out.1.z.grown g6 (fun q => by injection q with q; omega), OPost.far (S5.out.2.1) g6 (by have := HQ.out; omega) (FAR.out (Q + 1) (by have := HQ.out; omega)).1 (FAR.out (Q + 1) (by have := HQ.out; omega)).2.1 (FAR.out (Q + 1) (by have := HQ.out; omega)).2.2, S5.out.2.2.1.kp (Kp.of_grown g6) (fun g q e => by injection e with e; exact far6 g q e.symm)⟩
  have T6 : Hid (∀ g, T5 g → T g ∨ w.heap.size ≤ g) := fun g q => (S5.out.2.2.2 g q).imp (fun q => q) (fun q => Nat.le_trans S4.out.2.1.k.size q)
  have F6 : Hid (∀ g, T5 g → g ≠ Q + 3 ∧ g ≠ Q + 4) := fun g q => by
    rcases S5.out.2.2.2 _ q with h | h
    · have := W0.out.2.lt _ h; have := HQ.out; omega
    · have := Q4.out; omega
  clear nb6 g6 far6 S5 S4 lt1
  go_wp2_with (first
    | (refine step_load rfl 39 _ rfl (Q + 1) 0 rfl [.pointer (some ⟨R, 0, none⟩), .slice a5 n5 c5] _ (Blk.all (S6.out.1)) Try.underlying39 rfl sizePr ?_)
    | ((with_reducible refine at_store ?_); refine step_store rfl 39 _ _ rfl (Q + 3) 0 39 [.pointer none, .slice none 0 0] [.pointer (some ⟨R, 0, none⟩), .slice a5 n5 c5] rfl rfl (S6.out.2.1) (show 0 + 2 ≤ 2 by decide) sizePr (two_one _ _ rfl rfl) ?_; intro w7 nb2 g2; have z2 := (S6.out.2.2.1).grown g2 (fun q => by injection q with q; omega))
    | ((with_reducible refine at_store ?_); refine step_store rfl 45 _ _ rfl (Q + 4) 0 45 [.slice none 0 0, .slice none 0 0] [.slice none 0 0, .slice none 0 0] rfl rfl z2 (show 0 + 2 ≤ 2 by decide) sizeOu (two_one _ _ rfl rfl) ?_; intro w8 nb3 g3))
  refine ret_ctc rfl rfl (Q + 3) 39 [.pointer (some ⟨R, 0, none⟩), .slice a5 n5 c5] _ rfl ((blk_whole2 (Z := [.pointer none, .slice none 0 0]) (by simp) nb2).grown g3 (fun q => by injection q with q; omega)) Try.underlying39 rfl sizePr (Q + 4) 45 [.slice none 0 0, .slice none 0 0] _ rfl (blk_whole2 (Z := [.slice none 0 0, .slice none 0 0]) (by simp) nb3) Try.underlying45 rfl sizeOu ?_
  refine FIN.out _ _ _ _ T5 (OPost.far (OPost.far (S6.out.2.2.2.1) g2 (by have := HQ.out; omega) (FAR.out (Q + 3) (by have := HQ.out; omega)).1 (FAR.out (Q + 3) (by have := HQ.out; omega)).2.1 (FAR.out (Q + 3) (by have := HQ.out; omega)).2.2) g3 (by have := HQ.out; omega) (FAR.out (Q + 4) (by have := HQ.out; omega)).1 (FAR.out (Q + 4) (by have := HQ.out; omega)).2.1 (FAR.out (Q + 4) (by have := HQ.out; omega)).2.2) ((S6.out.2.2.2.2.kp (Kp.of_grown g2) (fun g q e => by injection e with e; exact (F6.out g q).1 e.symm)).kp (Kp.of_grown g3) (fun g q e => by injection e with e; exact (F6.out g q).2 e.symm)) T6.out
end Go.Proofs.Yteppdlaoeoeplaa
