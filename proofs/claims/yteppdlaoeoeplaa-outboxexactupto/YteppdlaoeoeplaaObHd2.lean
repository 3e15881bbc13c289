/-
  Ours: held; rows whose elements have two cells.
-/
import Derived.Test.YteppdlaoeoeplaaObHd
namespace Go.Proofs.Yteppdlaoeoeplaa
open Go.RowKit ObM LedM PolM
set_option linter.unusedSimpArgs false

theorem fm2_at {α : Type} {f : α → List Value} (hf : ∀ x, (f x).length = 2) : ∀ (xs : List α) (i j : Nat) (x : α), xs[i]? = some x → j < 2 → (xs.flatMap f)[i * 2 + j]? = (f x)[j]?
  | e :: r, 0, j, x, h, hj => by
    simp at h
    subst h
    rw [Nat.zero_mul, Nat.zero_add]
    show (f e ++ r.flatMap f)[j]? = _
    rw [List.getElem?_append_left (by rw [hf]; exact hj)]
  | e :: r, i + 1, j, x, h, hj => by
    have ih := fm2_at hf r i j x (by simpa using h) hj
    show (f e ++ r.flatMap f)[(i + 1) * 2 + j]? = _
    rw [List.getElem?_append_right (by rw [hf]; omega)]
    rw [show (i + 1) * 2 + j - (f e).length = i * 2 + j from by rw [hf]; omega, ih]
theorem own2_cell {α : Type} {e : TypeId} {f : α → List Value} {base : Nat} {w : World} {a : Option Addr} {n c : Nat} {xs : List α} (hf : ∀ x, (f x).length = 2) (h : w.ownsRow base e 2 (.slice a n c) xs.length (xs.flatMap f)) {i : Nat} {x : α} (hi : xs[i]? = some x) :
    ∃ g, a = some ⟨g, 0, none⟩ ∧ g < w.heap.size ∧ ∀ j u, (f x)[j]? = some u → w.cell? ⟨g, i * 2 + j, none⟩ = some u := by
  have hl := (List.getElem?_eq_some_iff.1 hi).1
  rcases h.2 with ⟨h1, h2⟩ | ⟨g, cap, cur, h1, hb, h2, h3, h4, h5, h6⟩
  · omega
  · injection h1 with h1 hn hc
    refine ⟨g, h1, (Array.getElem?_eq_some_iff.1 h2).1, fun j u hu => ?_⟩
    have B : Blk g e cur.toList w := h2
    refine B.cell _ _ ?_
    have hj : j < 2 := by have := (List.getElem?_eq_some_iff.1 hu).1; rwa [hf] at this
    have := fm2_at hf xs i j x hi hj
    rw [← h6, List.getElem?_take, if_pos (by omega), hu] at this
    exact this
theorem own_len {e : TypeId} {base k N : Nat} {w : World} {a : Option Addr} {n c : Nat} {vs : List Value} (h : w.ownsRow base e k (.slice a n c) N vs) : n = N := by
  rcases h.2 with ⟨h1, h2⟩ | ⟨g, cap, cur, h1, _⟩
  · injection h1 with _ h1 _; omega
  · injection h1
/-- Bytes that hold one mark. -/
def Mk (w : World) (x : Hd) : Prop := x.b.bn ≤ 140737488355328 ∧ Rd w x.b.v (List.replicate x.b.bn (.int .u8 x.mark))
theorem Mk.kp {M : Nat → Prop} {w w' : World} {x : Hd} (h : Mk w x) (k : Kp M w w') (hm : ∀ g, x.b.v.ownBlock = some g → ¬ M g) : Mk w' x := ⟨h.1, h.2.kp k hm⟩

set_option maxRecDepth 40000 in
set_option maxHeartbeats 2000000 in
theorem held_at (hs : List Hd) (a : Option Addr) (n c base : Nat) (w : World) (h : w.ownsRow base 74 2 (.slice a n c) hs.length (hs.flatMap hdL)) (hl : hs.length ≤ 4398046511104) (hr : ∀ x ∈ hs, Mk w x) :
    Calls Try.prog 14 #[.slice a n c] w fun e w' => e = .returned (.bool true) ∧ ∃ m, w' = w.drewN m := by
  obtain rfl := own_len h
  obtain ⟨N, hN⟩ : ∃ N, hs.length = N := ⟨_, rfl⟩
  have HC : Hid (∀ k, k < N → ∃ (x : Hd) (g : Nat), a = some ⟨g, 0, none⟩ ∧ w.cell? ⟨g, k * 2, none⟩ = some (.slice x.b.ba x.b.bn x.b.bc) ∧ w.cell? ⟨g, k * 2 + 1, none⟩ = some (.int .u8 x.mark) ∧ x.b.bn ≤ 140737488355328 ∧ ∀ j, j < x.b.bn → ∃ g' o', x.b.ba = some ⟨g', o', none⟩ ∧ w.cell? ⟨g', o' + j, none⟩ = some (.int .u8 x.mark)) := fun k hk => by
    obtain ⟨x, hx⟩ : ∃ x, hs[k]? = some x := ⟨hs[k]'(by omega), List.getElem?_eq_getElem _⟩
    obtain ⟨g, e, -, C⟩ := own2_cell hdL_len h hx
    obtain ⟨h1, h2⟩ := hr x (List.mem_of_getElem? hx)
    refine ⟨x, g, e, C 0 _ rfl, C 1 _ rfl, h1, fun j hj => ?_⟩
    obtain ⟨g', o', e1, _, e2⟩ := rd_at2 h2 (i := j) (u := .int .u8 x.mark) (by rw [List.getElem?_replicate, if_pos hj])
    exact ⟨g', o', e1, e2⟩
  rw [hN] at hl ⊢
  clear h hr hN
  go_enter Try.func14, Try.ntmps14
  go_wp2_with fail
  go_loopw [3] (fun vk wr => ∃ (m k : Nat), wr = w.drewN m ∧ vk = .int .i64 (k : Int) ∧ k ≤ N) (fun vk _ => N - (intOf vk).toNat)
  case atStart => exact ⟨0, 0, rfl, rfl, by omega⟩
  case round =>
    obtain ⟨m, k, rfl, rfl, hk⟩ := hrel
    by_cases hlt : (k : Int) < (N : Int)
    · obtain ⟨x, g, rfl, c0, c1, lb, CC⟩ := HC.out k (by omega)
      have HX : Hid (∀ j, j < x.b.bn → ∃ g' o', x.b.ba = some ⟨g', o', none⟩ ∧ w.cell? ⟨g', o' + j, none⟩ = some (.int .u8 x.mark)) := CC
      have e1 : (x.mark != x.mark) = false := by simp
      clear CC HC
      obtain ⟨⟨ba, bn, bc⟩, mk⟩ := x
      simp only at c0 c1 lb HX e1
      go_wp2_with fail
      go_loopw [4] (fun vj wz => ∃ (m' j : Nat), wz = w.drewN m' ∧ vj = .int .i64 (j : Int) ∧ j ≤ bn) (fun vj _ => bn - (intOf vj).toNat)
      case atStart => exact ⟨m, 0, rfl, rfl, by omega⟩
      case round =>
        obtain ⟨m', j, rfl, rfl, hj⟩ := hrel
        by_cases hlj : (j : Int) < (bn : Int)
        · obtain ⟨g', o', rfl, d0⟩ := HX.out j (by omega)
          go_wp2_with fail
          go_quiet (fail)
          go_wp2_with fail
          go_roundw
          case rel => exact ⟨m' + nq, j + 1, by simp, by go_num, by omega⟩
          case measure => simp [intOf]; omega
        · go_wp2_with fail
          go_roundw
          case rel => exact ⟨m', k + 1, rfl, by go_num, by omega⟩
          case measure => simp [intOf]; omega
    · go_wp2_with fail
      go_ret
      exact ⟨rfl, m, rfl⟩
end Go.Proofs.Yteppdlaoeoeplaa
