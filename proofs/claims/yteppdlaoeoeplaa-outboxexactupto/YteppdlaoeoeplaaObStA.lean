/-
  Ours: the statement's step: Ack, and what does nothing (gen_obb.py).
-/
import Derived.Test.YteppdlaoeoeplaaObStp
namespace Go.Proofs.Yteppdlaoeoeplaa
open Go.RowKit ObM LedM PolM
set_option linter.unusedSimpArgs false

theorem two_one (a b : Value) (ha : a.oneCell' = true) (hb : b.oneCell' = true) : ∀ v ∈ [a, b], v.oneCell' = true := fun v hv => by
  simp only [List.mem_cons, List.mem_nil_iff, or_false] at hv
  rcases hv with rfl | rfl
  · exact ha
  · exact hb
/-- A block that the box doesn't know was written. -/
theorem OPost.far {R bm : Nat} {B B' : Nat → Prop} {l : List Int} {L : List En} {w w1 w2 : World} {G : Nat} (h : OPost R bm B l w L B' w1) (g : w1.grownBy w2 (some G)) (hG : w.heap.size ≤ G) (hR : G ≠ R) (hb : G ≠ bm) (hB : ¬ B' G) : OPost R bm B l w L B' w2 := by
  have k := Kp.of_grown g
  have ne : ∀ x, x ≠ G → ¬ (some G = some x) := fun x hx e => by injection e with e; exact hx e.symm
  refine ⟨⟨h.box.blk.kp k (ne _ hR.symm), h.box.ll, h.box.mp.same (k.block bm h.box.mp.lt (ne _ hb.symm)), h.box.rise, fun e he => ⟨(h.box.bd e he).1.kp k (fun g hg e' => by injection e' with e'; subst e'; exact hB hg), (h.box.bd e he).2⟩, h.box.ok, fun g hg => ⟨Nat.lt_of_lt_of_le (h.box.b g hg).1 k.size, (h.box.b g hg).2⟩⟩, h.b, h.b', h.k.trans k (fun g hg e => by injection e with e; omega)⟩

set_option maxRecDepth 40000 in
set_option maxHeartbeats 4000000 in
theorem step_none (R bm : Nat) (B T : Nat → Prop) (lb l : List Int) (s : Value) (L ys : List En) (a : Option Addr) (n c : Nat) (o : Oc) (xa : Option Addr) (xc : Nat) (m : Int) (w : World) (h : BoxV R bm B lb L w) (hr : RL T w a n c ys) (k1 : o.kd ≠ 1) (k2 : o.kd ≠ 2) (k3 : o.kd ≠ 3) (k4 : o.kd ≠ 4) :
    Calls Try.prog 12 #[.agg (polL l s).toArray, .agg #[.pointer (some ⟨R, 0, none⟩), .slice a n c], .agg (ocL o xa xc).toArray, .int .u8 m] w (StAns R bm B T lb w L ys B) := by
  have FIN : Hid (∀ w', Below w.heap.size w w' → StAns R bm B T lb w L ys B (.returned (.tuple #[.agg #[.pointer (some ⟨R, 0, none⟩), .slice a n c], .bool true, .agg #[.slice none 0 0, .slice none 0 0]])) w') := fun w' b => ⟨a, n, c, T, rfl, OPost.refl h b, hr.below b, fun _ q => .inl q⟩
  generalize StAns R bm B T lb w L ys B = PP at *
  have W0 : Hid (BoxV R bm B lb L w ∧ RL T w a n c ys) := ⟨h, hr⟩
  have e1 : (o.kd == 1) = false := by simpa using k1
  have e2 : (o.kd == 2) = false := by simpa using k2
  have e3 : (o.kd == 3) = false := by simpa using k3
  have e4 : (o.kd == 4) = false := by simpa using k4
  clear k1 k2 k3 k4
  obtain ⟨Q, hQ⟩ : ∃ Q, w.heap.size = Q := ⟨_, rfl⟩
  have HQ : Hid (w.heap.size = Q) := hQ
  obtain ⟨w0, hw0⟩ : ∃ w0, w.alloc (.cells (polL l s).toArray 24) = w0 := ⟨_, rfl⟩
  obtain ⟨w1, hw1⟩ : ∃ w1, ((((w0.alloc (.cells #[.pointer (some ⟨R, 0, none⟩), .slice a n c] 39)).alloc (.cells (ocL o xa xc).toArray 30)).alloc (.cells #[.pointer none, .slice none 0 0] 39)).alloc (.cells #[.slice none 0 0, .slice none 0 0] 45)) = w1 := ⟨_, rfl⟩
  have eQ : w0.heap.size = Q + 1 := by rw [← hw0, ← hQ]; simp
  have S1 : Hid (SB Q l s R (.slice a n c) o xa xc w1 ∧ Below w.heap.size w w1) := by
    rw [← hw1, ← hw0, ← hQ]
    exact SB.new w
  clear h hr
  go_enter Try.func12, Try.ntmps12
  go_upto_region 1 with fail
  clear hQ hw1 hw0 eQ
  have c0 := S1.out.1.o.cell 0 _ rfl
  have lt2 := S1.out.1.o.lt
  go_wp2_with (first
    | (refine step_load rfl 39 _ rfl (Q + 1) 0 rfl [.pointer (some ⟨R, 0, none⟩), .slice a n c] _ (Blk.all (S1.out.1.x)) Try.underlying39 rfl sizePr ?_)
    | ((with_reducible refine at_store ?_); refine step_store rfl 39 _ _ rfl (Q + 3) 0 39 [.pointer none, .slice none 0 0] [.pointer (some ⟨R, 0, none⟩), .slice a n c] rfl rfl (S1.out.1.y) (show 0 + 2 ≤ 2 by decide) sizePr (two_one _ _ rfl rfl) ?_; intro w2 nb2 g2; have z2 := (S1.out.1.z).grown g2 (fun q => by injection q with q; omega))
    | ((with_reducible refine at_store ?_); refine step_store rfl 45 _ _ rfl (Q + 4) 0 45 [.slice none 0 0, .slice none 0 0] [.slice none 0 0, .slice none 0 0] rfl rfl z2 (show 0 + 2 ≤ 2 by decide) sizeOu (two_one _ _ rfl rfl) ?_; intro w3 nb3 g3))
  refine ret_ctc rfl rfl (Q + 3) 39 [.pointer (some ⟨R, 0, none⟩), .slice a n c] _ rfl ((blk_whole2 (Z := [.pointer none, .slice none 0 0]) (by simp) nb2).grown g3 (fun q => by injection q with q; omega)) Try.underlying39 rfl sizePr (Q + 4) 45 [.slice none 0 0, .slice none 0 0] _ rfl (blk_whole2 (Z := [.slice none 0 0, .slice none 0 0]) (by simp) nb3) Try.underlying45 rfl sizeOu ?_
  exact FIN.out _ (below_row (below_row S1.out.2 g2 (by have := HQ.out; omega)) g3 (by have := HQ.out; omega))
end Go.Proofs.Yteppdlaoeoeplaa
