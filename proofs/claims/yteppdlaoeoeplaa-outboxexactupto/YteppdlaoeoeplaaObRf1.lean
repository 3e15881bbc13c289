/-
  Ours: the reference's entries as they lie; its copied, Holds, later.
-/
import Derived.Test.YteppdlaoeoeplaaObAlM
import Derived.Test.YteppdlaoeoeplaaObOpen
namespace Go.Proofs.Yteppdlaoeoeplaa
open Go.RowKit ObM LedM PolM
set_option linter.unusedSimpArgs false

/-- Entries of the reference: where they lie (T), as they read. -/
structure RL (T : Nat → Prop) (w : World) (a : Option Addr) (n c : Nat) (xs : List En) : Prop where
  rd : RdL 4 enL En.bv En.bs w (.slice a n c) xs
  blk : ∀ g, (Value.slice a n c).ownBlock = some g → T g
  bd : ∀ x ∈ xs, ∀ g, x.bv.ownBlock = some g → T g
  lt : ∀ g, T g → g < w.heap.size
theorem rd_block {w w' : World} {v : Value} {vs : List Value} {M : Nat → Prop} (h : Rd w v vs) (k : Kp M w w') (hm : ∀ g, v.ownBlock = some g → ¬ M g) : Rd w' v vs := h.kp k hm
theorem RL.kp {T M : Nat → Prop} {w w' : World} {a : Option Addr} {n c : Nat} {xs : List En} (h : RL T w a n c xs) (k : Kp M w w') (hT : ∀ g, T g → ¬ M g) : RL T w' a n c xs := by
  refine ⟨?_, h.blk, h.bd, fun g hg => Nat.lt_of_lt_of_le (h.lt g hg) k.size⟩
  obtain ⟨a', c', e, hc, H⟩ := h.rd
  refine ⟨a', c', e, hc, fun i x hx => ?_⟩
  obtain ⟨g, o, e1, lt, h1, h2, h3⟩ := H i x hx
  injection e with e _ _
  refine ⟨g, o, e1, Nat.lt_of_lt_of_le lt k.size, fun j u hu => cell_kp k (hT g (h.blk g (by rw [e, e1]; rfl))) (h1 j u hu), h2.kp k (fun q hq => hT q (h.bd x (List.mem_of_getElem? hx) q hq)), h3⟩
theorem RL.below {T : Nat → Prop} {w w' : World} {a : Option Addr} {n c : Nat} {xs : List En} (h : RL T w a n c xs) (b : Below w.heap.size w w') : RL T w' a n c xs := h.kp (Kp.of_below b (fun _ => False)) (fun _ _ q => q)
theorem RL.n {T : Nat → Prop} {w : World} {a : Option Addr} {n c : Nat} {xs : List En} (h : RL T w a n c xs) : n = xs.length := by
  obtain ⟨_, _, e, _⟩ := h.rd
  injection e
theorem RL.at {T : Nat → Prop} {w : World} {a : Option Addr} {n c : Nat} {xs : List En} (h : RL T w a n c xs) {i : Nat} {x : En} (hx : xs[i]? = some x) : ∃ g o, a = some ⟨g, o, none⟩ ∧ g < w.heap.size ∧ (∀ j u, (enL x)[j]? = some u → w.cell? ⟨g, o + i * 4 + j, none⟩ = some u) ∧ RdB w x.bv x.bs ∧ x.bs.length ≤ 140737488351232 := by
  obtain ⟨a', c', e, hc, H⟩ := h.rd
  injection e with e _ _
  subst e
  exact H i x hx
theorem RL.nil (w : World) : RL (fun _ => False) w none 0 0 [] := ⟨⟨none, 0, rfl, by simp, fun i x hx => by simp at hx⟩, (fun g hg => by cases hg), (fun x hx => by cases hx), fun _ h => h.elim⟩
theorem RL.mono {T T' : Nat → Prop} {w : World} {a : Option Addr} {n c : Nat} {xs : List En} (h : RL T w a n c xs) (hT : ∀ g, T g → T' g) (hl : ∀ g, T' g → g < w.heap.size) : RL T' w a n c xs := ⟨h.rd, fun g hg => hT g (h.blk g hg), fun x hx g hg => hT g (h.bd x hx g hg), hl⟩

set_option maxHeartbeats 600000 in
theorem rcopied_at (bs : List Nat) (v : Value) (w : World) (hl : bs.length ≤ 140737488351232) (h : RdB w v bs) : Calls Try.prog 31 #[v] w (NewS w bs) := by
  obtain ⟨i0, hi, hz0, hz1, hz2⟩ := info_parts infoB
  have one := one_bv bs
  have l1 : ([] : List Value).length + (bs.map bv).length ≤ maxLen := by simp only [List.length_map, List.length_nil]; unfold maxLen; omega
  have l2 : (([] : List Value).length + (bs.map bv).length) * 1 ≤ 140737488355328 := by simp only [List.length_map, List.length_nil]; omega
  have rd0 := h
  obtain ⟨us, hus⟩ : ∃ us, bs.map bv = us := ⟨_, rfl⟩
  unfold RdB at rd0
  rw [hus] at one l1 l2 rd0
  have HU : Hid (bs.map bv = us) := hus
  clear h hus
  go_enter Try.func31, Try.ntmps31
  go_wp2_with (at_builtin; refine wpList_catV rfl (.tmp 4) (.tmp 5) 28 rfl 5 i0 (.int .u8 0) 1 underB hi hz0 hz1 hz2 rfl w.heap.size (.slice none 0 0) _ [] _ one rfl (RowV.nil _ _ _) (Nat.le_refl _) rfl rd0 l1 l2 ?_; intro v3 w3 r3 g3)
  obtain ⟨a3, c3, rfl, -, -⟩ := (RowV.rd r3).len
  go_ret
  exact ⟨a3, _, c3, rfl, by rw [RowB, HU.out]; simpa using r3, below_none g3⟩

theorem rlater_at (now t : Int) (w : World) (hn : i64 now) (ht : 0 ≤ t ∧ t ≤ 9223372036854775807) : Calls Try.prog 32 #[.int .i64 now, .int .i64 t] w fun e w' => e = .returned (.int .i64 (lateN now t)) ∧ w' = w := by
  obtain ⟨h1, h2⟩ := hn
  obtain ⟨h3, h4⟩ := ht
  unfold lateN
  by_cases h : now > 9223372036854775807 - t
  · rw [if_pos h]
    go_enter Try.func32, Try.ntmps32
    go_wp2_with fail
    go_ret
    exact ⟨rfl, rfl⟩
  · rw [if_neg h]
    go_enter Try.func32, Try.ntmps32
    go_wp2_with fail
    go_ret
    exact ⟨by go_num, rfl⟩

theorem lk_front {xs : List En} {id : Int} {k : Nat} (h : ∀ j x, j < k → xs[j]? = some x → x.id ≠ id) (hk : xs.length ≤ k) : lk xs id = none := by
  cases hl : lk xs id with
  | none => rfl
  | some y =>
    obtain ⟨hy, he⟩ := lk_some hl
    obtain ⟨j, hj, e⟩ := List.getElem_of_mem hy
    exact absurd he (h j y (by omega) (by rw [List.getElem?_eq_getElem hj, e]))
set_option maxRecDepth 40000 in
set_option maxHeartbeats 1000000 in
theorem rholds_at (T : Nat → Prop) (xs : List En) (a : Option Addr) (n c : Nat) (id : Int) (w : World) (h : RL T w a n c xs) (hl : xs.length ≤ 1000000000) :
    Calls Try.prog 30 #[.agg #[.slice a n c], .int .i64 id] w fun e w' => e = .returned (.bool (lk xs id).isSome) ∧ Below w.heap.size w w' := by
  obtain rfl := h.n
  obtain ⟨N, hN⟩ : ∃ N, xs.length = N := ⟨_, rfl⟩
  have HN : Hid (xs.length = N) := hN
  have HR : Hid (RL T w a xs.length c xs) := h
  rw [hN] at hl HR ⊢
  clear h hN
  obtain ⟨Q, hQ⟩ : ∃ Q, w.heap.size = Q := ⟨_, rfl⟩
  have HQ : Hid (w.heap.size = Q) := hQ
  obtain ⟨w0, hw0⟩ : ∃ w0, w.alloc (.cells #[.slice a N c] 37) = w0 := ⟨_, rfl⟩
  have B0 : Hid (Blk Q 37 [.slice a N c] w0 ∧ Below w.heap.size w w0) := by
    rw [← hw0, ← hQ]
    exact ⟨Blk.new _ _ _, below_alloc _ _⟩
  go_enter Try.func30, Try.ntmps30
  go_upto_region 1 with fail
  clear hQ hw0
  have cQ := B0.out.1.cell 0 _ rfl
  have ltQ := B0.out.1.lt
  go_wp2_with fail
  go_loopw [5] (fun vk wr => ∃ k : Nat, vk = .int .i64 (k : Int) ∧ k ≤ N ∧ wr = w0 ∧ Hid (∀ j x, j < k → xs[j]? = some x → x.id ≠ id)) (fun vk _ => N - (intOf vk).toNat)
  case atStart => exact ⟨0, rfl, by omega, rfl, fun j x hj => by omega⟩
  case round =>
    obtain ⟨k, rfl, hk, rfl, D⟩ := hrel
    by_cases hlt : (k : Int) < (N : Int)
    · obtain ⟨x, hx⟩ : ∃ x, xs[k]? = some x := ⟨xs[k]'(by rw [HN.out]; omega), List.getElem?_eq_getElem _⟩
      obtain ⟨g, o, rfl, lg, c0, -, -⟩ := (HR.out.below B0.out.2).at hx
      have y0 := c0 0 _ rfl
      rw [Nat.add_zero] at y0
      have HX : Hid (xs[k]? = some x) := hx
      clear hx c0
      by_cases hid : x.id = id
      · have e1 : (x.id == id) = true := by simpa using hid
        have FN : Hid ((lk xs id).isSome = true) := by
          show _ = _
          unfold lk
          rw [List.find?_isSome]
          exact ⟨x, List.mem_of_getElem? HX.out, by simpa using hid⟩
        clear hid
        go_wp2_with fail
        go_ret
        exact ⟨by show Ending.returned (.bool true) = _; rw [FN.out], B0.out.2⟩
      · have e1 : (x.id == id) = false := by simpa using hid
        have N1 : Hid (∀ j y, j < k + 1 → xs[j]? = some y → y.id ≠ id) := fun j y hj hy => by
          by_cases e : j = k
          · subst e
            rw [HX.out] at hy
            injection hy with hy
            rw [← hy]; exact hid
          · exact D.out j y (by omega) hy
        clear hid
        go_wp2_with fail
        go_roundw
        case rel => exact ⟨k + 1, by go_num, by omega, by first | rfl | trivial, N1⟩
        case measure => simp [intOf]; omega
    · obtain rfl : k = N := by omega
      have FN : Hid ((lk xs id).isSome = false) := by show _ = _; rw [lk_front D.out (by rw [HN.out]; exact Nat.le_refl _)]; rfl
      go_wp2_with fail
      go_ret
      exact ⟨by show Ending.returned (.bool false) = _; rw [FN.out], B0.out.2⟩
end Go.Proofs.Yteppdlaoeoeplaa
