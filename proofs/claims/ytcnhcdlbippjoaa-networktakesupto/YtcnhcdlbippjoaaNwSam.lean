/-
  Ours: two lists of what was accepted that are alike.
-/
import Derived.Test.YtcnhcdlbippjoaaNwOp
namespace Go.Proofs.Ytcnhcdlbippjoaa
open Go.RowKit NwM

/-- A list of what was accepted, as it reads. -/
def RdA (w : World) (v : Value) (ys : List Ac) : Prop := RowA 0 w v ys ∧ ∀ y ∈ ys, RdB w (.slice y.ba y.bn y.bc) y.bs ∧ y.bs.length ≤ 140737488351232
theorem RdA.later {w w' : World} {v : Value} {ys : List Ac} (h : RdA w v ys) (b : Below w.heap.size w w') : RdA w' v ys := ⟨own_grown h.1 (grownBy_below b none) (fun _ _ => by simp), fun y hy => ⟨Rd.later (h.2 y hy).1 b, (h.2 y hy).2⟩⟩
theorem AccL.rd {base : Nat} {w : World} {v : Value} {ys : List Ac} (h : AccL base w v ys) (hb : ∀ y ∈ ys, y.bs.length ≤ 140737488351232) : RdA w v ys := ⟨own_mono h.row (Nat.zero_le _), fun y hy => ⟨RowV.rd (h.bd y hy), hb y hy⟩⟩
theorem RdA.cut {w : World} {a : Option Addr} {n c : Nat} {ys : List Ac} (h : RdA w (.slice a n c) ys) {k : Nat} (hk : k ≤ n) : RdA w (.slice a k c) (ys.take k) := ⟨h.1.cut acL3 hk, fun y hy => h.2 y (List.mem_of_mem_take hy)⟩
theorem core_len {xs : List Ac} {t : List Ac} (h : xs.map core = t.map core) : xs.length = t.length := by have := congrArg List.length h; simpa using this
theorem core_bs {xs : List Ac} {t : List Ac} {P : List Nat → Prop} (h : xs.map core = t.map core) (ht : ∀ a ∈ t, P a.bs) : ∀ y ∈ xs, P y.bs := fun y hy => by
  have : core y ∈ t.map core := by rw [← h]; exact List.mem_map_of_mem hy
  obtain ⟨a, ha, e⟩ := List.mem_map.1 this
  have : a.bs = y.bs := congrArg (·.2.2) e
  rw [← this]; exact ht a ha
theorem core_at {xs ys : List Ac} (h : xs.map core = ys.map core) {k : Nat} {x y : Ac} (hx : xs[k]? = some x) (hy : ys[k]? = some y) : x.id = y.id ∧ x.tk = y.tk ∧ x.bs = y.bs := by
  have h1 : (xs.map core)[k]? = some (core x) := by rw [List.getElem?_map, hx]; rfl
  rw [h, List.getElem?_map, hy] at h1
  injection h1 with h1
  exact ⟨(congrArg (·.1) h1).symm, (congrArg (·.2.1) h1).symm, (congrArg (·.2.2) h1).symm⟩
set_option maxRecDepth 40000 in
set_option maxHeartbeats 4000000 in
theorem sameAcc_yes (xs ys : List Ac) (va vb : Value) (w : World) (hl : xs.length ≤ 1000000000000) (h : RdA w va xs) (h' : RdA w vb ys) (hc : xs.map core = ys.map core) :
    Calls Try.prog 25 #[va, vb] w fun e w' => e = .returned (.bool true) ∧ Below w.heap.size w w' := by
  obtain ⟨a, ca, rfl, -, -⟩ := h.1.len
  obtain ⟨b, cb, rfl, -, -⟩ := h'.1.len
  have HE : Hid (ys.length = xs.length) := (core_len hc).symm
  rw [HE.out] at h' ⊢
  obtain ⟨N, hN⟩ : ∃ N, xs.length = N := ⟨_, rfl⟩
  have HN : Hid (xs.length = N) := hN
  rw [hN] at h h' hl ⊢
  have HA : Hid (RdA w (.slice a N ca) xs ∧ RdA w (.slice b N cb) ys ∧ xs.map core = ys.map core ∧ ys.length = N) := ⟨h, h', hc, by rw [HE.out, hN]⟩
  have e0 : ((N : Int) != (N : Int)) = false := by simp
  clear h h' hc hN HE
  go_enter Try.func25, Try.ntmps25
  go_wp2_with fail
  go_loopw [5] (fun vk wr => ∃ k : Nat, vk = .int .i64 (k : Int) ∧ k ≤ N ∧ Below w.heap.size w wr) (fun vk _ => N - (intOf vk).toNat)
  case atStart => exact ⟨0, rfl, by omega, Below.refl _ _⟩
  case round =>
    obtain ⟨k, rfl, hk, hb⟩ := hrel
    by_cases hlt : (k : Int) < (N : Int)
    · obtain ⟨x, hx⟩ : ∃ x, xs[k]? = some x := ⟨xs[k]'(by rw [HN.out]; omega), List.getElem?_eq_getElem _⟩
      obtain ⟨y, hy⟩ : ∃ y, ys[k]? = some y := ⟨ys[k]'(by rw [HA.out.2.2.2]; omega), List.getElem?_eq_getElem _⟩
      obtain ⟨ga, rfl, lga⟩ : ∃ g, a = some ⟨g, 0, none⟩ ∧ g < wr.heap.size := by
        obtain ⟨g, cap, ev, -, lg, -⟩ := Row3.some HA.out.1.1 (by rw [HN.out]; omega)
        injection ev with ev _ _
        exact ⟨g, ev, Nat.lt_of_lt_of_le lg hb.size⟩
      obtain ⟨gb, rfl, lgb⟩ : ∃ g, b = some ⟨g, 0, none⟩ ∧ g < wr.heap.size := by
        obtain ⟨g, cap, ev, -, lg, -⟩ := Row3.some HA.out.2.1.1 (by rw [HA.out.2.2.2]; omega)
        injection ev with ev _ _
        exact ⟨g, ev, Nat.lt_of_lt_of_le lg hb.size⟩
      obtain ⟨c1, c2, c3⟩ := core_at HA.out.2.2.1 hx hy
      have ha := HA.out.1.later hb
      have hb' := HA.out.2.1.later hb
      have CX : Hid (∀ w', Below wr.heap.size wr w' → w'.cell? ⟨ga, k * 3, none⟩ = some (.int .i64 x.id) ∧ w'.cell? ⟨ga, k * 3 + 1, none⟩ = some (.int .i64 x.tk) ∧ w'.cell? ⟨ga, k * 3 + 2, none⟩ = some (.slice x.ba x.bn x.bc) ∧ w'.cell? ⟨gb, k * 3, none⟩ = some (.int .i64 x.id) ∧ w'.cell? ⟨gb, k * 3 + 1, none⟩ = some (.int .i64 x.tk) ∧ w'.cell? ⟨gb, k * 3 + 2, none⟩ = some (.slice y.ba y.bn y.bc)) := fun w' b' => by
        have r1 := (ha.later b').1
        have r2 := (hb'.later b').1
        have y0 := (Row3.cell acL3 r1 hx 0 _ rfl).2
        have z0 := (Row3.cell acL3 r2 hy 0 _ rfl).2
        have z1 := (Row3.cell acL3 r2 hy 1 _ rfl).2
        rw [Nat.add_zero] at y0 z0
        rw [← c1] at z0
        rw [← c2] at z1
        exact ⟨y0, (Row3.cell acL3 r1 hx 1 _ rfl).2, (Row3.cell acL3 r1 hx 2 _ rfl).2, z0, z1, (Row3.cell acL3 r2 hy 2 _ rfl).2⟩
      have SA : Hid (∀ w', Below wr.heap.size wr w' → Calls Try.prog 34 #[.slice x.ba x.bn x.bc, .slice y.ba y.bn y.bc] w' fun e w'' => e = .returned (.bool true) ∧ Below wr.heap.size wr w'') := fun w' b' => by
        have m1 := ha.2 x (List.mem_of_getElem? hx)
        have m2 := hb'.2 y (List.mem_of_getElem? hy)
        refine (same_at x.bs y.bs _ _ w' (by have := m1.2; omega) (Rd.later m1.1 b') (Rd.later m2.1 b')).mono ?_
        rintro e w'' ⟨rfl, n, rfl⟩
        exact ⟨by rw [decide_eq_true c3], below_drewN b' n⟩
      have hkN : k < N := by omega
      have e1 : (x.id != x.id) = false := by simp
      have e2 : (x.tk != x.tk) = false := by simp
      have HB : Hid (Below w.heap.size w wr) := hb
      have S0 : Hid (Below wr.heap.size wr wr.drew) := Below.drew (Below.refl _ _)
      clear hx hy c1 c2 c3 ha hb' hb
      go_upto_region 6 with fail
      go_region_held3 (fun w' => Below wr.heap.size wr w' ∧ w'.cell? ⟨ga, k * 3, none⟩ = some (.int .i64 x.id) ∧ w'.cell? ⟨ga, k * 3 + 1, none⟩ = some (.int .i64 x.tk) ∧ w'.cell? ⟨ga, k * 3 + 2, none⟩ = some (.slice x.ba x.bn x.bc) ∧ w'.cell? ⟨gb, k * 3, none⟩ = some (.int .i64 x.id) ∧ w'.cell? ⟨gb, k * 3 + 1, none⟩ = some (.int .i64 x.tk) ∧ w'.cell? ⟨gb, k * 3 + 2, none⟩ = some (.slice y.ba y.bn y.bc)) (first | assumption | exact ⟨S0.out, CX.out _ S0.out⟩ | exact ⟨b2, CX.out _ b2⟩) (first
        | (go_at_call 34; refine (SA.out _ S0.out).mono ?_; rintro e w2 ⟨rfl, b2⟩))
      have F2 : Hid (Below w.heap.size w w2) := below_trans HB.out b2
      clear CX SA HB S0 b2
      go_wp2_with fail
      go_roundw
      case rel => exact ⟨k + 1, by go_num, by omega, F2.out⟩
      case measure => simp [intOf]; omega
    · obtain rfl : k = N := by omega
      have HB : Hid (Below w.heap.size w wr) := hb
      clear hb
      go_wp2_with fail
      go_ret
      exact ⟨rfl, HB.out⟩
end Go.Proofs.Ytcnhcdlbippjoaa
