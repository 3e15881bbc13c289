/-
  Ours: the statements' tick, place, only, wakes.
-/
import Derived.Test.YtjbmiihbgelpeaaObSam
import Derived.Test.YtjbmiihbgelpeaaObRet
namespace Go.Proofs.Ytjbmiihbgelpeaa
open Go.RowKit ObM LedM PolM
set_option linter.unusedSimpArgs false

def tickN (now wt : Int) : Int := if wt < 0 ∨ wt > 1000 then now else now + wt
theorem tickN_ge {now wt : Int} : now ≤ tickN now wt ∧ tickN now wt ≤ now + 1000 := by unfold tickN; split <;> omega
theorem tick_at (now wt : Int) (w : World) (hn : 0 ≤ now ∧ now ≤ 1000000000) : Calls Try.prog 21 #[.int .i64 now, .int .i64 wt] w fun e w' => e = .returned (.int .i64 (tickN now wt)) ∧ w' = w := by
  obtain ⟨n1, n2⟩ := hn
  unfold tickN
  by_cases h1 : wt < 0
  · rw [if_pos (.inl h1)]
    go_enter Try.func21, Try.ntmps21
    go_wp2_with fail
    go_ret
    exact ⟨rfl, rfl⟩
  · by_cases h2 : wt > 1000
    · rw [if_pos (.inr h2)]
      go_enter Try.func21, Try.ntmps21
      go_wp2_with fail
      go_ret
      exact ⟨rfl, rfl⟩
    · rw [if_neg (by omega)]
      go_enter Try.func21, Try.ntmps21
      go_wp2_with fail
      go_ret
      exact ⟨by go_num, rfl⟩

set_option maxRecDepth 40000 in
set_option maxHeartbeats 1000000 in
theorem place_at (qs : List En) (v : Value) (id : Int) (w : World) (h : RdL 4 enL En.bv En.bs w v qs) (hl : qs.length ≤ 1000000000) :
    Calls Try.prog 18 #[v, .int .i64 id] w fun e w' => w' = w ∧ ∃ r : Int, e = .returned (.int .i64 r) ∧ ((r = -1 ∧ ∀ x ∈ qs, x.id ≠ id) ∨ ∃ (k : Nat) (x : En), r = (k : Int) ∧ qs[k]? = some x ∧ x.id = id) := by
  obtain ⟨a, c, rfl, -, hA⟩ := h
  obtain ⟨N, hN⟩ : ∃ N, qs.length = N := ⟨_, rfl⟩
  have HN : Hid (qs.length = N) := hN
  rw [hN] at hl ⊢
  have HA : Hid (∀ i x, qs[i]? = some x → ∃ g o, a = some ⟨g, o, none⟩ ∧ g < w.heap.size ∧ (∀ j u, (enL x)[j]? = some u → w.cell? ⟨g, o + i * 4 + j, none⟩ = some u) ∧ RdB w x.bv x.bs ∧ x.bs.length ≤ 140737488351232) := hA
  clear hA hN
  go_enter Try.func18, Try.ntmps18
  go_wp2_with fail
  go_loopw [5] (fun vk wr => ∃ k : Nat, vk = .int .i64 (k : Int) ∧ k ≤ N ∧ wr = w ∧ Hid (∀ j x, j < k → qs[j]? = some x → x.id ≠ id)) (fun vk _ => N - (intOf vk).toNat)
  case atStart => exact ⟨0, rfl, by omega, rfl, fun j x hj => by omega⟩
  case round =>
    obtain ⟨k, rfl, hk, rfl, D⟩ := hrel
    by_cases hlt : (k : Int) < (N : Int)
    · obtain ⟨x, hx⟩ : ∃ x, qs[k]? = some x := ⟨qs[k]'(by rw [HN.out]; omega), List.getElem?_eq_getElem _⟩
      obtain ⟨g, o, rfl, lg, c0, -, -⟩ := HA.out k x hx
      have y0 := c0 0 _ rfl
      rw [Nat.add_zero] at y0
      have HX : Hid (qs[k]? = some x) := hx
      clear hx c0
      by_cases hid : x.id = id
      · have e1 : (x.id == id) = true := by simpa using hid
        have FN : Hid (∃ (k' : Nat) (x : En), (k : Int) = (k' : Int) ∧ qs[k']? = some x ∧ x.id = id) := ⟨k, x, rfl, HX.out, hid⟩
        clear hid
        go_wp2_with fail
        go_ret
        refine ⟨rfl, (k : Int), rfl, .inr FN.out⟩
      · have e1 : (x.id == id) = false := by simpa using hid
        have N1 : Hid (∀ j y, j < k + 1 → qs[j]? = some y → y.id ≠ id) := fun j y hj hy => by
          by_cases e : j = k
          · subst e
            rw [HX.out] at hy
            injection hy with hy
            rw [← hy]; exact hid
          · exact D.out j y (by omega) hy
        clear hid
        go_wp2_with fail
        go_roundw
        case rel => exact ⟨k + 1, by go_num, by omega, by first | rfl | trivial, N1⟩
        case measure => simp [intOf]; omega
    · obtain rfl : k = N := by omega
      have FN : Hid (∀ x ∈ qs, x.id ≠ id) := fun x hx => by
        obtain ⟨j, hj, e⟩ := List.getElem_of_mem hx
        exact D.out j x (by have := HN.out; omega) (by rw [List.getElem?_eq_getElem hj, e])
      go_wp2_with fail
      go_ret
      exact ⟨rfl, -1, rfl, .inl ⟨rfl, FN.out⟩⟩

/-- The packets of one number. -/
def onlyL (ps : List Pk) (id : Int) : List Pk := ps.filter (fun p => decide (p.id = id))
theorem only_snoc {ps : List Pk} {id : Int} {k : Nat} {p : Pk} (h : ps[k]? = some p) : onlyL (ps.take (k + 1)) id = onlyL (ps.take k) id ++ (if p.id = id then [p] else []) := by
  unfold onlyL
  rw [List.take_add_one, h, List.filter_append]
  congr 1
  by_cases e : p.id = id
  · rw [if_pos e]; simp [e]
  · rw [if_neg e]; simp [e]

set_option maxRecDepth 40000 in
set_option maxHeartbeats 1000000 in
theorem only_at (ps : List Pk) (v : Value) (id : Int) (w : World) (h : RdL 3 pkL Pk.bv Pk.bs w v ps) (hl : ps.length ≤ 1000000000) :
    Calls Try.prog 23 #[v, .int .i64 id] w fun e w' => ∃ a n c, e = .returned (.slice a n c) ∧ RdL 3 pkL Pk.bv Pk.bs w' (.slice a n c) (onlyL ps id) ∧ Below w.heap.size w w' := by
  obtain ⟨i0, hi, hz0, hz1, hz2⟩ := info_parts infoPk
  have HR : Hid (RdL 3 pkL Pk.bv Pk.bs w v ps) := h
  obtain ⟨a, c, rfl, -, hA⟩ := h
  obtain ⟨N, hN⟩ : ∃ N, ps.length = N := ⟨_, rfl⟩
  have HN : Hid (ps.length = N) := hN
  rw [hN] at hl HR ⊢
  have HA : Hid (∀ i x, ps[i]? = some x → ∃ g o, a = some ⟨g, o, none⟩ ∧ g < w.heap.size ∧ (∀ j u, (pkL x)[j]? = some u → w.cell? ⟨g, o + i * 3 + j, none⟩ = some u) ∧ RdB w x.bv x.bs ∧ x.bs.length ≤ 140737488351232) := hA
  clear hA hN
  go_enter Try.func23, Try.ntmps23
  go_wp2_with fail
  go_loopw [5, 6] (fun v5 vk wr => ∃ k : Nat, ∃ va vm vc, vk = .int .i64 (k : Int) ∧ k ≤ N ∧ v5 = .slice va vm vc ∧ Hid (Below w.heap.size w wr ∧ wr.ownsRow w.heap.size 44 3 (.slice va vm vc) (onlyL (ps.take k) id).length ((onlyL (ps.take k) id).flatMap pkL))) (fun _ vk _ => N - (intOf vk).toNat)
  case atStart => exact ⟨0, none, 0, 0, rfl, by omega, rfl, Below.refl _ _, by simpa [onlyL] using World.ownsRow_nil w w.heap.size 44 3⟩
  case round =>
    obtain ⟨k, va, vm, vc, rfl, hk, rfl, D⟩ := hrel
    by_cases hlt : (k : Int) < (N : Int)
    · obtain ⟨p, hp⟩ : ∃ p, ps[k]? = some p := ⟨ps[k]'(by rw [HN.out]; omega), List.getElem?_eq_getElem _⟩
      obtain ⟨g, o, rfl, lg, c0, -, -⟩ := HA.out k p hp
      have lg' : g < wr.heap.size := Nat.lt_of_lt_of_le lg D.out.1.size
      have C := fun j u hu => (D.out.1.cell (p := ⟨g, o + k * 3 + j, none⟩) lg).trans (c0 j u hu)
      have y1 := C 1 _ rfl
      have RG : Hid (wr.rangeAt g (o + k * 3) (pkL p)) := fun j u hu => C j u hu
      have SN : Hid (onlyL (ps.take (k + 1)) id = onlyL (ps.take k) id ++ (if p.id = id then [p] else [])) := only_snoc hp
      have LN : Hid ((onlyL (ps.take k) id).length ≤ N) := Nat.le_trans (List.length_filter_le ..) (by rw [List.length_take]; omega)
      clear hp c0 C
      by_cases hid : p.id = id
      · have e1 : (p.id == id) = true := by simpa using hid
        have SN' : Hid (onlyL (ps.take (k + 1)) id = onlyL (ps.take k) id ++ [p]) := by show _ = _; rw [SN.out, if_pos hid]
        clear hid SN
        obtain ⟨M, hM⟩ : ∃ M, (onlyL (ps.take k) id).length = M := ⟨_, rfl⟩
        have HM : Hid ((onlyL (ps.take k) id).length = M) := hM
        have hM9 : M ≤ 1000000000 := by have := LN.out; omega
        have OW : Hid (wr.ownsRow w.heap.size 44 3 (.slice va vm vc) M ((onlyL (ps.take k) id).flatMap pkL)) := by
          have := D.out.2
          rwa [hM] at this
        have l1 : M + 1 ≤ maxLen := by unfold maxLen; omega
        have l2 : (M + 1) * 40 ≤ 140737488355328 := by omega
        have hsz : w.heap.size ≤ wr.heap.size := D.out.1.size
        clear hM
        go_wp2_with (first
          | (refine step_load rfl 44 _ rfl g (o + k * 3) rfl [.bool false, .int .i64 p.id, .slice p.ba p.bn p.bc] _ RG.out Try.underlying44 rfl sizePk ?_)
          | (at_builtin; refine wpList_pushR rfl (.tmp 20) (.tmp 25) 33 rfl 44 i0 (.agg #[.bool false, .int .i64 0, .slice none 0 0]) 3 40 Try.underlying33 hi hz0 hz1 hz2 rfl (by decide) w.heap.size (.slice va vm vc) M ((onlyL (ps.take k) id).flatMap pkL) (pkL p) rfl (pkL_one _) rfl OW.out hsz rfl l1 l2 ?_; intro a4 n4 c4 w4 r4 g4 x4))
        have D4 : Hid (Below w.heap.size w w4 ∧ w4.ownsRow w.heap.size 44 3 (.slice a4 n4 c4) (onlyL (ps.take (k + 1)) id).length ((onlyL (ps.take (k + 1)) id).flatMap pkL)) := by
          refine ⟨D.out.1.grown g4 hsz (fun q e => (own_heap OW.out e).1), ?_⟩
          rw [SN'.out, List.length_append, HM.out, fl_snoc]
          exact r4
        clear r4 g4 x4 OW
        go_roundw
        case rel => exact ⟨k + 1, a4, n4, c4, by go_num, by omega, rfl, D4⟩
        case measure => simp [intOf]; omega
      · have e1 : (p.id == id) = false := by simpa using hid
        have D4 : Hid (Below w.heap.size w wr ∧ wr.ownsRow w.heap.size 44 3 (.slice va vm vc) (onlyL (ps.take (k + 1)) id).length ((onlyL (ps.take (k + 1)) id).flatMap pkL)) := by
          have := D.out
          rw [SN.out, if_neg hid, List.append_nil]
          exact this
        clear hid SN D
        go_wp2_with fail
        go_roundw
        case rel => exact ⟨k + 1, va, vm, vc, by go_num, by omega, rfl, D4⟩
        case measure => simp [intOf]; omega
    · obtain rfl : k = N := by omega
      have FN : Hid (RdL 3 pkL Pk.bv Pk.bs wr (.slice va vm vc) (onlyL ps id) ∧ Below w.heap.size w wr) := by
        have h1 := D.out.2
        rw [List.take_of_length_le (by rw [HN.out]; exact Nat.le_refl _)] at h1
        have hm : ∀ x ∈ onlyL ps id, RdB wr x.bv x.bs ∧ x.bs.length ≤ 140737488351232 := fun x hx => by
          obtain ⟨i, hi', e⟩ := List.getElem_of_mem (List.mem_filter.1 hx).1
          obtain ⟨_, _, _, _, _, h4, h5⟩ := HA.out i x (by rw [List.getElem?_eq_getElem hi', e])
          exact ⟨Rd.later h4 D.out.1, h5⟩
        refine ⟨?_, D.out.1⟩
        obtain ⟨a', c', e, hc, -⟩ := Row3.len (f := pkL) h1
        refine ⟨a', c', e, hc, fun i x hx => ?_⟩
        have hl := (List.getElem?_eq_some_iff.1 hx).1
        obtain ⟨g, cap, e', _, lt, _⟩ := Row3.some (f := pkL) h1 (by omega)
        rw [e'] at e h1
        injection e with e1 e2 e3
        exact ⟨g, 0, e1.symm, lt, fun j u hu => by rw [Nat.zero_add]; exact (Row3.cell (f := pkL) pkL_len h1 hx j u hu).2, (hm x (List.mem_of_getElem? hx)).1, (hm x (List.mem_of_getElem? hx)).2⟩
      go_wp2_with fail
      go_ret
      exact ⟨va, vm, vc, rfl, FN.out⟩
end Go.Proofs.Ytjbmiihbgelpeaa
