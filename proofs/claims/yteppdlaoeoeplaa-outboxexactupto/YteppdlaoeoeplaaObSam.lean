/-
  Ours: the statements' packets and pendings, where both lists are alike (gen_ob5.py).
-/
import Derived.Test.YteppdlaoeoeplaaObEq
import Derived.Deep.RegionHeld3
namespace Go.Proofs.Yteppdlaoeoeplaa
open Go.RowKit ObM LedM PolM
set_option linter.unusedSimpArgs false

def coreP (p : Pk) : Int × List Nat := (p.id, p.bs)
/-- A list of structs with bytes, as it reads. -/
def RdL {α : Type} (k : Nat) (f : α → List Value) (bv : α → Value) (bs : α → List Nat) (w : World) (v : Value) (xs : List α) : Prop := ∃ a c, v = .slice a xs.length c ∧ xs.length ≤ c ∧ ∀ i x, xs[i]? = some x → ∃ g o, a = some ⟨g, o, none⟩ ∧ g < w.heap.size ∧ (∀ j u, (f x)[j]? = some u → w.cell? ⟨g, o + i * k + j, none⟩ = some u) ∧ RdB w (bv x) (bs x) ∧ (bs x).length ≤ 140737488351232
theorem RdL.later {α : Type} {k : Nat} {f : α → List Value} {bv : α → Value} {bs : α → List Nat} {w w' : World} {v : Value} {xs : List α} (h : RdL k f bv bs w v xs) (b : Below w.heap.size w w') : RdL k f bv bs w' v xs := by
  obtain ⟨a, c, e, hc, H⟩ := h
  refine ⟨a, c, e, hc, fun i x hx => ?_⟩
  obtain ⟨g, o, e1, lt, h1, h2, h3⟩ := H i x hx
  exact ⟨g, o, e1, Nat.lt_of_lt_of_le lt b.size, fun j u hu => (b.cell (p := ⟨g, o + i * k + j, none⟩) lt).trans (h1 j u hu), Rd.later h2 b, h3⟩
theorem OutP.rdl {base : Nat} {w : World} {v : Value} {ps : List Pk} (h : OutP base w v ps) (hb : ∀ p ∈ ps, p.bs.length ≤ 140737488351232) : RdL 3 pkL Pk.bv Pk.bs w v ps := by
  obtain ⟨a, c, rfl, hc, -⟩ := Row3.len (f := pkL) h.row
  refine ⟨a, c, rfl, hc, fun i x hx => ?_⟩
  have hl := (List.getElem?_eq_some_iff.1 hx).1
  obtain ⟨g, cap, e, _, lt, _⟩ := Row3.some (f := pkL) h.row (by omega)
  injection e with e1 e2 e3
  subst e1 e3
  exact ⟨g, 0, rfl, lt, fun j u hu => by rw [Nat.zero_add]; exact (Row3.cell (f := pkL) pkL_len h.row hx j u hu).2, RowV.rd (h.bd x (List.mem_of_getElem? hx)), hb x (List.mem_of_getElem? hx)⟩
theorem OutQ.rdl {base : Nat} {w : World} {v : Value} {qs : List En} (h : OutQ base w v qs) (hb : ∀ p ∈ qs, p.bs.length ≤ 140737488351232) : RdL 4 enL En.bv En.bs w v qs := by
  obtain ⟨a, c, rfl, hc, -⟩ := Row4.len (f := enL) h.row
  refine ⟨a, c, rfl, hc, fun i x hx => ?_⟩
  have hl := (List.getElem?_eq_some_iff.1 hx).1
  obtain ⟨g, cap, e, _, lt, _⟩ := Row4.some (f := enL) h.row (by omega)
  injection e with e1 e2 e3
  subst e1 e3
  exact ⟨g, 0, rfl, lt, fun j u hu => by rw [Nat.zero_add]; exact (Row4.cell (f := enL) enL_len h.row hx j u hu).2, RowV.rd (h.bd x (List.mem_of_getElem? hx)), hb x (List.mem_of_getElem? hx)⟩

set_option maxRecDepth 40000 in
set_option maxHeartbeats 4000000 in
theorem packets_yes (xs ys : List Pk) (va vb : Value) (w : World) (hl : xs.length ≤ 1000000000000) (h : RdL 3 pkL Pk.bv Pk.bs w va xs) (h' : RdL 3 pkL Pk.bv Pk.bs w vb ys) (hc : xs.map coreP = ys.map coreP) :
    Calls Try.prog 24 #[va, vb] w fun e w' => e = .returned (.bool true) ∧ Below w.heap.size w w' := by
  have hE : ys.length = xs.length := by have := congrArg List.length hc; simpa using this.symm
  have HE : Hid (ys.length = xs.length) := hE
  obtain ⟨a, ca, rfl, -, hA⟩ := h
  obtain ⟨b, cb, rfl, -, hB⟩ := h'
  rw [hE]
  clear hE
  obtain ⟨N, hN⟩ : ∃ N, xs.length = N := ⟨_, rfl⟩
  have HN : Hid (xs.length = N ∧ ys.length = N) := ⟨hN, by rw [HE.out, hN]⟩
  rw [hN] at hl ⊢
  have HA : Hid ((∀ i x, xs[i]? = some x → ∃ g o, a = some ⟨g, o, none⟩ ∧ g < w.heap.size ∧ (∀ j u, (pkL x)[j]? = some u → w.cell? ⟨g, o + i * 3 + j, none⟩ = some u) ∧ RdB w x.bv x.bs ∧ x.bs.length ≤ 140737488351232) ∧ (∀ i x, ys[i]? = some x → ∃ g o, b = some ⟨g, o, none⟩ ∧ g < w.heap.size ∧ (∀ j u, (pkL x)[j]? = some u → w.cell? ⟨g, o + i * 3 + j, none⟩ = some u) ∧ RdB w x.bv x.bs ∧ x.bs.length ≤ 140737488351232) ∧ xs.map coreP = ys.map coreP) := ⟨hA, hB, hc⟩
  have e0 : ((N : Int) != (N : Int)) = false := by simp
  clear hA hB hc hN HE
  go_enter Try.func24, Try.ntmps24
  go_wp2_with fail
  go_loopw [5] (fun vk wr => ∃ k : Nat, vk = .int .i64 (k : Int) ∧ k ≤ N ∧ Below w.heap.size w wr) (fun vk _ => N - (intOf vk).toNat)
  case atStart => exact ⟨0, rfl, by omega, Below.refl _ _⟩
  case round =>
    obtain ⟨k, rfl, hk, hb⟩ := hrel
    by_cases hlt : (k : Int) < (N : Int)
    · obtain ⟨x, hx⟩ : ∃ x, xs[k]? = some x := ⟨xs[k]'(by rw [HN.out.1]; omega), List.getElem?_eq_getElem _⟩
      obtain ⟨y, hy⟩ : ∃ y, ys[k]? = some y := ⟨ys[k]'(by rw [HN.out.2]; omega), List.getElem?_eq_getElem _⟩
      have qq : coreP x = coreP y := by
        have h1 : (xs.map coreP)[k]? = some (coreP x) := by rw [List.getElem?_map, hx]; rfl
        rw [HA.out.2.2, List.getElem?_map, hy] at h1
        injection h1 with h1
        exact h1.symm
      obtain ⟨ga, oa, rfl, lga, ca0, rx, lx⟩ := HA.out.1 k x hx
      obtain ⟨gb, ob, rfl, lgb, cb0, ry, ly⟩ := HA.out.2.1 k y hy
      have CX : Hid (∀ w', Below w.heap.size w w' → w'.cell? ⟨ga, oa + k * 3, none⟩ = some (.bool false) ∧ w'.cell? ⟨ga, oa + k * 3 + 1, none⟩ = some (.int .i64 x.id) ∧ w'.cell? ⟨ga, oa + k * 3 + 2, none⟩ = some (x.bv) ∧ w'.cell? ⟨gb, ob + k * 3, none⟩ = some (.bool false) ∧ w'.cell? ⟨gb, ob + k * 3 + 1, none⟩ = some (.int .i64 x.id) ∧ w'.cell? ⟨gb, ob + k * 3 + 2, none⟩ = some (y.bv)) := fun w' b' => by
        have A := fun j u hu => (b'.cell (p := ⟨ga, oa + k * 3 + j, none⟩) lga).trans (ca0 j u hu)
        have C := fun j u hu => (b'.cell (p := ⟨gb, ob + k * 3 + j, none⟩) lgb).trans (cb0 j u hu)
        have h1 : x.id = y.id := congrArg (·.1) qq
        have C1 := C 1 _ rfl
        rw [← h1] at C1
        exact ⟨A 0 _ rfl, A 1 _ rfl, A 2 _ rfl, C 0 _ rfl, C1, C 2 _ rfl⟩
      have SA : Hid (∀ w', Below w.heap.size w w' → Calls Try.prog 18 #[x.bv, y.bv] w' fun e w'' => e = .returned (.bool true) ∧ Below w.heap.size w w'') := fun w' b' => by
        refine (eq_at x.bs y.bs _ _ w' (by omega) (Rd.later rx b') (Rd.later ry b')).mono ?_
        rintro e w'' ⟨rfl, b''⟩
        exact ⟨by rw [decide_eq_true (show x.bs = y.bs from congrArg (·.2) qq)], below_trans b' b''⟩
      have lga' : ga < wr.heap.size := Nat.lt_of_lt_of_le lga hb.size
      have lgb' : gb < wr.heap.size := Nat.lt_of_lt_of_le lgb hb.size
      have hkN : k < N := by omega
      have e1 : ((x.id : Int) != x.id) = false := by simp
      have S0 : Hid (Below w.heap.size w wr.drew) := Below.drew hb
      clear hx hy ca0 cb0 rx ry lx ly qq hb
      go_upto_region 6 with fail
      go_region_held3 (fun w' => Below w.heap.size w w' ∧ w'.cell? ⟨ga, oa + k * 3, none⟩ = some (.bool false) ∧ w'.cell? ⟨ga, oa + k * 3 + 1, none⟩ = some (.int .i64 x.id) ∧ w'.cell? ⟨ga, oa + k * 3 + 2, none⟩ = some (x.bv) ∧ w'.cell? ⟨gb, ob + k * 3, none⟩ = some (.bool false) ∧ w'.cell? ⟨gb, ob + k * 3 + 1, none⟩ = some (.int .i64 x.id) ∧ w'.cell? ⟨gb, ob + k * 3 + 2, none⟩ = some (y.bv)) (first | assumption | exact ⟨S0.out, CX.out _ S0.out⟩ | exact ⟨b2, CX.out _ b2⟩) (first
        | (go_at_call 18; refine (SA.out _ S0.out).mono ?_; rintro e w2 ⟨rfl, b2⟩))
      have F2 : Hid (Below w.heap.size w w2) := b2
      clear CX SA S0 b2
      go_wp2_with fail
      go_roundw
      case rel => exact ⟨k + 1, by go_num, by omega, F2.out⟩
      case measure => simp [intOf]; omega
    · obtain rfl : k = N := by omega
      have HB : Hid (Below w.heap.size w wr) := hb
      clear hb
      go_wp2_with fail
      go_ret
      exact ⟨rfl, HB.out⟩

set_option maxRecDepth 40000 in
set_option maxHeartbeats 4000000 in
theorem pendings_yes (xs ys : List En) (va vb : Value) (w : World) (hl : xs.length ≤ 1000000000000) (h : RdL 4 enL En.bv En.bs w va xs) (h' : RdL 4 enL En.bv En.bs w vb ys) (hc : xs.map core = ys.map core) :
    Calls Try.prog 27 #[va, vb] w fun e w' => e = .returned (.bool true) ∧ Below w.heap.size w w' := by
  have hE : ys.length = xs.length := by have := congrArg List.length hc; simpa using this.symm
  have HE : Hid (ys.length = xs.length) := hE
  obtain ⟨a, ca, rfl, -, hA⟩ := h
  obtain ⟨b, cb, rfl, -, hB⟩ := h'
  rw [hE]
  clear hE
  obtain ⟨N, hN⟩ : ∃ N, xs.length = N := ⟨_, rfl⟩
  have HN : Hid (xs.length = N ∧ ys.length = N) := ⟨hN, by rw [HE.out, hN]⟩
  rw [hN] at hl ⊢
  have HA : Hid ((∀ i x, xs[i]? = some x → ∃ g o, a = some ⟨g, o, none⟩ ∧ g < w.heap.size ∧ (∀ j u, (enL x)[j]? = some u → w.cell? ⟨g, o + i * 4 + j, none⟩ = some u) ∧ RdB w x.bv x.bs ∧ x.bs.length ≤ 140737488351232) ∧ (∀ i x, ys[i]? = some x → ∃ g o, b = some ⟨g, o, none⟩ ∧ g < w.heap.size ∧ (∀ j u, (enL x)[j]? = some u → w.cell? ⟨g, o + i * 4 + j, none⟩ = some u) ∧ RdB w x.bv x.bs ∧ x.bs.length ≤ 140737488351232) ∧ xs.map core = ys.map core) := ⟨hA, hB, hc⟩
  have e0 : ((N : Int) != (N : Int)) = false := by simp
  clear hA hB hc hN HE
  go_enter Try.func27, Try.ntmps27
  go_wp2_with fail
  go_loopw [5] (fun vk wr => ∃ k : Nat, vk = .int .i64 (k : Int) ∧ k ≤ N ∧ Below w.heap.size w wr) (fun vk _ => N - (intOf vk).toNat)
  case atStart => exact ⟨0, rfl, by omega, Below.refl _ _⟩
  case round =>
    obtain ⟨k, rfl, hk, hb⟩ := hrel
    by_cases hlt : (k : Int) < (N : Int)
    · obtain ⟨x, hx⟩ : ∃ x, xs[k]? = some x := ⟨xs[k]'(by rw [HN.out.1]; omega), List.getElem?_eq_getElem _⟩
      obtain ⟨y, hy⟩ : ∃ y, ys[k]? = some y := ⟨ys[k]'(by rw [HN.out.2]; omega), List.getElem?_eq_getElem _⟩
      have qq : core x = core y := by
        have h1 : (xs.map core)[k]? = some (core x) := by rw [List.getElem?_map, hx]; rfl
        rw [HA.out.2.2, List.getElem?_map, hy] at h1
        injection h1 with h1
        exact h1.symm
      obtain ⟨ga, oa, rfl, lga, ca0, rx, lx⟩ := HA.out.1 k x hx
      obtain ⟨gb, ob, rfl, lgb, cb0, ry, ly⟩ := HA.out.2.1 k y hy
      have CX : Hid (∀ w', Below w.heap.size w w' → w'.cell? ⟨ga, oa + k * 4, none⟩ = some (.int .i64 x.id) ∧ w'.cell? ⟨ga, oa + k * 4 + 1, none⟩ = some (.int .i64 x.att) ∧ w'.cell? ⟨ga, oa + k * 4 + 2, none⟩ = some (.int .i64 x.nx) ∧ w'.cell? ⟨ga, oa + k * 4 + 3, none⟩ = some (x.bv) ∧ w'.cell? ⟨gb, ob + k * 4, none⟩ = some (.int .i64 x.id) ∧ w'.cell? ⟨gb, ob + k * 4 + 1, none⟩ = some (.int .i64 x.att) ∧ w'.cell? ⟨gb, ob + k * 4 + 2, none⟩ = some (.int .i64 x.nx) ∧ w'.cell? ⟨gb, ob + k * 4 + 3, none⟩ = some (y.bv)) := fun w' b' => by
        have A := fun j u hu => (b'.cell (p := ⟨ga, oa + k * 4 + j, none⟩) lga).trans (ca0 j u hu)
        have C := fun j u hu => (b'.cell (p := ⟨gb, ob + k * 4 + j, none⟩) lgb).trans (cb0 j u hu)
        have h0 : x.id = y.id := congrArg (·.1) qq
        have h1 : x.att = y.att := congrArg (·.2.1) qq
        have h2 : x.nx = y.nx := congrArg (·.2.2.1) qq
        have C0 := C 0 _ rfl
        have C1 := C 1 _ rfl
        have C2 := C 2 _ rfl
        rw [← h0] at C0
        rw [← h1] at C1
        rw [← h2] at C2
        exact ⟨A 0 _ rfl, A 1 _ rfl, A 2 _ rfl, A 3 _ rfl, C0, C1, C2, C 3 _ rfl⟩
      have SA : Hid (∀ w', Below w.heap.size w w' → Calls Try.prog 18 #[x.bv, y.bv] w' fun e w'' => e = .returned (.bool true) ∧ Below w.heap.size w w'') := fun w' b' => by
        refine (eq_at x.bs y.bs _ _ w' (by omega) (Rd.later rx b') (Rd.later ry b')).mono ?_
        rintro e w'' ⟨rfl, b''⟩
        exact ⟨by rw [decide_eq_true (show x.bs = y.bs from congrArg (·.2.2.2) qq)], below_trans b' b''⟩
      have lga' : ga < wr.heap.size := Nat.lt_of_lt_of_le lga hb.size
      have lgb' : gb < wr.heap.size := Nat.lt_of_lt_of_le lgb hb.size
      have hkN : k < N := by omega
      have e1 : ((x.id : Int) != x.id) = false := by simp
      have e2 : ((x.att : Int) != x.att) = false := by simp
      have e3 : ((x.nx : Int) != x.nx) = false := by simp
      have S0 : Hid (Below w.heap.size w wr.drew) := Below.drew hb
      clear hx hy ca0 cb0 rx ry lx ly qq hb
      go_upto_region 6 with fail
      go_region_held3 (fun w' => Below w.heap.size w w' ∧ w'.cell? ⟨ga, oa + k * 4, none⟩ = some (.int .i64 x.id) ∧ w'.cell? ⟨ga, oa + k * 4 + 1, none⟩ = some (.int .i64 x.att) ∧ w'.cell? ⟨ga, oa + k * 4 + 2, none⟩ = some (.int .i64 x.nx) ∧ w'.cell? ⟨ga, oa + k * 4 + 3, none⟩ = some (x.bv) ∧ w'.cell? ⟨gb, ob + k * 4, none⟩ = some (.int .i64 x.id) ∧ w'.cell? ⟨gb, ob + k * 4 + 1, none⟩ = some (.int .i64 x.att) ∧ w'.cell? ⟨gb, ob + k * 4 + 2, none⟩ = some (.int .i64 x.nx) ∧ w'.cell? ⟨gb, ob + k * 4 + 3, none⟩ = some (y.bv)) (first | assumption | exact ⟨S0.out, CX.out _ S0.out⟩ | exact ⟨b2, CX.out _ b2⟩) (first
        | (go_at_call 18; refine (SA.out _ S0.out).mono ?_; rintro e w2 ⟨rfl, b2⟩))
      have F2 : Hid (Below w.heap.size w w2) := b2
      clear CX SA S0 b2
      go_wp2_with fail
      go_roundw
      case rel => exact ⟨k + 1, by go_num, by omega, F2.out⟩
      case measure => simp [intOf]; omega
    · obtain rfl : k = N := by omega
      have HB : Hid (Below w.heap.size w wr) := hb
      clear hb
      go_wp2_with fail
      go_ret
      exact ⟨rfl, HB.out⟩

end Go.Proofs.Yteppdlaoeoeplaa
