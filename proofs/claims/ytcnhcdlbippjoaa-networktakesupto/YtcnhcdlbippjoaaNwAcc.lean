/-
  Ours: Accepted: the list and its bytes in memory of their own.
-/
import Derived.Test.YtcnhcdlbippjoaaNwSend
namespace Go.Proofs.Ytcnhcdlbippjoaa
open Go.RowKit NwM

/-- New rows of what was accepted; the bytes lie where they lay. -/
def NewA (w : World) (xs : List Ac) (e : Ending) (w' : World) : Prop := ∃ a n c, e = .returned (.slice a n c) ∧ RowA w.heap.size w' (.slice a n c) xs ∧ Below w.heap.size w w'
theorem flat_one (xs : List Ac) : ∀ u ∈ xs.flatMap acL, u.oneCell' = true := fun u hu => by
  obtain ⟨x, _, h⟩ := List.mem_flatMap.1 hu
  exact acL_one x u h
set_option maxRecDepth 20000 in
set_option maxHeartbeats 2000000 in
theorem sclone_at (xs : List Ac) (v : Value) (w : World) (hl : xs.length ≤ 1000000000000) (h : RowA 0 w v xs) : Calls Try.prog 45 #[v] w (NewA w xs) := by
  obtain ⟨i0, hi, hz0, hz1, hz2⟩ := info_parts infoAc
  have hm : ∀ (w : World) (a : Option Addr) (n c : Nat), (binOp .eql 30 (.slice a n c) (.slice none 0 0)).run Try.prog w = .ok (.bool a.isNone) w := fun w a n c => Lib.run_eql_slice_nil w _ _ a n c 0 0 Try.underlying30
  rcases h.open with ⟨rfl, rfl⟩ | ⟨g, cap, cur, rfl, -, hb, h3, h4, h5, h6⟩
  · clear h
    go_enter Try.func45, Try.ntmps45
    go_wp2_with fail
    go_ret
    exact ⟨_, _, _, rfl, Row3.nil _ _ _ _, Below.refl _ _⟩
  · have one := flat_one xs
    have b0 := below_alloc w (.cells #[] 74)
    have own0 : (w.alloc (.cells #[] 74)).ownsRow w.heap.size 74 3 (.slice (some ⟨w.heap.size, 0, none⟩) 0 0) 0 [] := ⟨by simp, .inr ⟨w.heap.size, 0, #[], rfl, Nat.le_refl _, (MapKept.heap_alloc w _).1, by simp, by unfold maxLen; omega, rfl, rfl⟩⟩
    have hsz : w.heap.size ≤ (w.alloc (.cells #[] 74)).heap.size := by simp
    have NB : Hid (∀ j u, (xs.flatMap acL)[j]? = some u → (w.alloc (.cells #[] 74)).cell? ((⟨g, 0, none⟩ : Addr).add j) = some u) := fun j u hu => by
      rw [Addr.add_lit, Nat.zero_add]
      refine (hb.below b0).cell j u ?_
      rw [← h6] at hu
      rw [List.getElem?_take] at hu
      split at hu
      · exact hu
      · cases hu
    obtain ⟨N, hN⟩ : ∃ N, xs.length = N := ⟨_, rfl⟩
    have HL : Hid ((xs.flatMap acL).length = N * 3) := by show _ = _; rw [fm_len acL3, hN]
    have HN : Hid (xs.length = N) := hN
    rw [hN] at hl ⊢
    have l1 : 0 + N ≤ maxLen := by unfold maxLen; omega
    have l2 : (0 + N) * 40 ≤ 140737488355328 := by omega
    clear h hb h3 h4 h5 h6 hN
    go_enter Try.func45, Try.ntmps45
    go_wp2_with (at_builtin; refine wpList_append_own _ rfl (.tmp 5) (.tmp 6) 30 rfl w.heap.size 74 i0 (.agg #[.int .i64 0, .int .i64 0, .slice none 0 0]) 3 40 Try.underlying30 hi hz0 hz1 hz2 rfl (by decide) _ 0 [] rfl own0 ⟨g, 0, none⟩ N cap (xs.flatMap acL) rfl HL.out NB.out one l1 l2 hsz ?_; intro v3 w3 r3 g3 _)
    have r4 : RowA w.heap.size w3 v3 xs := by
      unfold RowA Row3
      rw [HN.out]
      simpa using r3
    obtain ⟨a3, c3, rfl, -, -⟩ := r4.len
    have hk3 : ∀ k, (Value.slice (some ⟨w.heap.size, 0, none⟩) 0 0).ownBlock = some k → w.heap.size ≤ k := fun k hk => by
      have : w.heap.size = k := by simpa [Value.ownBlock] using hk
      omega
    have F : Hid (RowA w.heap.size w3 (.slice a3 xs.length c3) xs ∧ Below w.heap.size w w3) := ⟨r4, b0.grown g3 hsz hk3⟩
    clear r3 r4 g3 NB own0 b0
    go_ret
    exact ⟨a3, _, c3, rfl, F.out⟩

/-- Alike but for where the bytes lie. -/
def core (a : Ac) : Int × Int × List Nat := (a.id, a.tk, a.bs)
def bkOf (a : Ac) : Option Nat := (Value.slice a.ba a.bn a.bc).ownBlock
/-- A list of what was accepted, wholly in memory from 'base' on: the bytes of each apart from those of the others. -/
structure AccL (base : Nat) (w : World) (v : Value) (ys : List Ac) : Prop where
  row : RowA base w v ys
  bd : ∀ y ∈ ys, RowB 5 base w (.slice y.ba y.bn y.bc) y.bs
  nd : ys.Pairwise (fun a b => ∀ g, bkOf a = some g → bkOf b ≠ some g)
/-- What Accepted answers. -/
def AccAns (t : Nt) (w : World) (e : Ending) (w' : World) : Prop := ∃ a n c ys, e = .returned (.slice a n c) ∧ AccL w.heap.size w' (.slice a n c) ys ∧ ys.map core = t.ac.map core ∧ Below w.heap.size w w'
theorem flat_set2 (xs : List Ac) (i : Nat) (x : Ac) (a' : Option Addr) (n' c' : Nat) (bs : List Nat) (h : xs[i]? = some x) : (xs.flatMap acL).set (i * 3 + 2) (.slice a' n' c') = (xs.set i ⟨x.id, x.tk, a', n', c', bs⟩).flatMap acL := by
  induction xs generalizing i with
  | nil => simp at h
  | cons y xs ih =>
    cases i with
    | zero =>
      simp at h
      subst h
      rfl
    | succ i =>
      have := ih i (by simpa using h)
      rw [List.set_cons_succ, List.flatMap_cons, List.flatMap_cons, ← this, show (i + 1) * 3 + 2 = (i * 3 + 2) + 1 + 1 + 1 from by omega]
      rfl
theorem rowA_set {base g n c i : Nat} {w : World} {xs : List Ac} {x : Ac} {a' : Option Addr} {n' c' : Nat} (bs : List Nat) (h : RowA base w (.slice (some ⟨g, 0, none⟩) n c) xs) (hi : xs[i]? = some x) : RowA base (w.setCell ⟨g, i * 3 + 2, none⟩ (.slice a' n' c')) (.slice (some ⟨g, 0, none⟩) n c) (xs.set i ⟨x.id, x.tk, a', n', c', bs⟩) := by
  obtain ⟨a0, c0, ev, -, -⟩ := h.len
  injection ev with _ en _
  subst en
  have := (World.ownsRow.stored h (i * 3 + 2) (.slice a' n' c')).1
  unfold RowA Row3
  rw [List.length_set, ← flat_set2 xs i x a' n' c' bs hi]
  exact this
set_option maxRecDepth 40000 in
set_option maxHeartbeats 4000000 in
theorem list_at (R : Nat) (S B : Nat → Prop) (t : Nt) (w : World) (h : NetAt R S B t w) (hsz : t.ac.length ≤ 1000000000000) (hbl : ∀ a ∈ t.ac, a.bs.length ≤ 140737488351232) :
    Calls Try.prog 39 #[.pointer (some ⟨R, 12, none⟩)] w (AccAns t w) := by
  have hS : Hid (∀ g, B g → g < w.heap.size) := fun g hg => (h.b hg).1
  obtain ⟨bm, fv, av, vs, nv⟩ := h
  have ca := nv.ca
  have ltR := nv.lt
  have SC : Hid (Calls Try.prog 45 #[av] w (NewA w t.ac)) := sclone_at t.ac av w hsz nv.acc
  have HB : Hid (∀ a ∈ t.ac, Bd B w a.ba a.bn a.bc a.bs ∧ a.bs.length ≤ 140737488351232) := fun a ha => ⟨nv.bq a ha, hbl a ha⟩
  unfold AccAns
  generalize t.ac = xs at *
  obtain ⟨N, hN⟩ : ∃ N, xs.length = N := ⟨_, rfl⟩
  have HN : Hid (xs.length = N) := hN
  rw [hN] at hsz
  obtain ⟨a0, c0, rfl, -, -⟩ := nv.acc.len
  clear nv hbl hN
  go_enter Try.func39, Try.ntmps39
  go_wp2_with fail
  refine SC.out.mono ?_
  rintro e w1 ⟨a, n, c, rfl, r1, b1⟩
  obtain rfl : n = N := by
    obtain ⟨_, _, ev, -, -⟩ := r1.len
    injection ev with _ ev _
    rw [ev]; exact HN.out
  have D1 : Hid (RowA w.heap.size w1 (.slice a n c) xs ∧ Below w.heap.size w w1) := ⟨r1, b1⟩
  clear r1 b1 SC ca
  go_wp2_with fail
  go_loopw [13] (fun vk wr => ∃ k : Nat, ∃ ys : List Ac, vk = .int .i64 (k : Int) ∧ k ≤ n ∧ ys.length = k ∧ RowA w.heap.size wr (.slice a n c) (ys ++ xs.drop k) ∧ (∀ y ∈ ys, RowB 5 w.heap.size wr (.slice y.ba y.bn y.bc) y.bs) ∧ ys.Pairwise (fun a b => ∀ g, bkOf a = some g → bkOf b ≠ some g) ∧ ys.map core = (xs.take k).map core ∧ Below w.heap.size w wr) (fun vk _ => n - (intOf vk).toNat)
  case atStart => exact ⟨0, [], rfl, by omega, rfl, by simpa using D1.out.1, (fun _ h => nomatch h), List.Pairwise.nil, rfl, D1.out.2⟩
  case round =>
    obtain ⟨k, ys, rfl, hk, hyl, hr, hyb, hyd, hyc, hbw⟩ := hrel
    by_cases hlt : (k : Int) < (n : Int)
    · obtain ⟨x, hx⟩ : ∃ x, xs[k]? = some x := ⟨xs[k]'(by rw [HN.out]; omega), List.getElem?_eq_getElem _⟩
      have hx2 : (ys ++ xs.drop k)[k]? = some x := by
        rw [List.getElem?_append_right (by omega), hyl, Nat.sub_self, List.getElem?_drop, Nat.add_zero]; exact hx
      obtain ⟨g, rfl, lg, gg⟩ : ∃ g, a = some ⟨g, 0, none⟩ ∧ g < wr.heap.size ∧ w.heap.size ≤ g := by
        obtain ⟨g, cap, ev, -, lg, gg⟩ := Row3.some hr (by have := (List.getElem?_eq_some_iff.1 hx2).1; omega)
        injection ev with ev _ _
        exact ⟨g, ev, lg, gg⟩
      have y0 := (Row3.cell acL3 hr hx2 0 _ rfl).2
      have y1 := (Row3.cell acL3 hr hx2 1 _ rfl).2
      have y2 := (Row3.cell acL3 hr hx2 2 _ rfl).2
      rw [Nat.add_zero] at y0
      have hfz : ∀ j, wr.frozen? ⟨g, j, none⟩ = false := fun j => by
        obtain ⟨_, cur, hc⟩ := own_heap hr (g := g) rfl
        simp [World.frozen?, hc]
      have hbx := HB.out x (List.mem_of_getElem? hx)
      have D : Hid (RowA w.heap.size wr (.slice (some ⟨g, 0, none⟩) n c) (ys ++ xs.drop k) ∧ (∀ y ∈ ys, RowB 5 w.heap.size wr (.slice y.ba y.bn y.bc) y.bs) ∧ ys.Pairwise (fun a b => ∀ g, bkOf a = some g → bkOf b ≠ some g) ∧ ys.map core = (xs.take k).map core ∧ Below w.heap.size w wr ∧ ys.length = k ∧ xs[k]? = some x ∧ (ys ++ xs.drop k)[k]? = some x) := ⟨hr, hyb, hyd, hyc, hbw, hyl, hx, hx2⟩
      have CL : Hid (∀ w', Below wr.heap.size wr w' → Calls Try.prog 40 #[.slice x.ba x.bn x.bc] w' (NewS w' x.bs)) := fun w' b => clone_at x.bs _ w' hbx.2 (Rd.later (Rd.later hbx.1.1 hbw) b)
      have hkn : k < n := by omega
      clear hr hyb hyd hyc hbw hyl hx hx2 hbx
      have BA := below_alloc wr (.cells #[.int .i64 x.id, .int .i64 x.tk, .slice x.ba x.bn x.bc] 74)
      have D2 : Hid (Below wr.heap.size wr (wr.alloc (.cells #[.int .i64 x.id, .int .i64 x.tk, .slice x.ba x.bn x.bc] 74)) ∧ Blk wr.heap.size 74 [.int .i64 x.id, .int .i64 x.tk, .slice x.ba x.bn x.bc] (wr.alloc (.cells #[.int .i64 x.id, .int .i64 x.tk, .slice x.ba x.bn x.bc] 74))) := ⟨BA, Blk.new _ _ _⟩
      go_upto_region 5 with fail
      obtain ⟨Q, hQ⟩ : ∃ Q, wr.heap.size = Q := ⟨_, rfl⟩
      rw [hQ] at D2 ⊢
      have HQ : Hid (wr.heap.size = Q) := hQ
      clear hQ BA
      generalize wr.alloc (.cells #[.int .i64 x.id, .int .i64 x.tk, .slice x.ba x.bn x.bc] 74) = w5 at *
      have q2 := D2.out.2.cell 2 _ rfl
      have ltQ := D2.out.2.lt
      go_wp2_with fail
      refine (CL.out w5 (by rw [HQ.out]; exact D2.out.1)).mono ?_
      rintro e w6 ⟨a6, n6, c6, rfl, r6, b6⟩
      have bw6 : Below wr.heap.size wr w6 := below_trans (by rw [HQ.out]; exact D2.out.1) b6
      have lg6 : g < w6.heap.size := Nat.lt_of_lt_of_le lg bw6.size
      have z2 : w6.cell? ⟨g, k * 3 + 2, none⟩ = some (.slice x.ba x.bn x.bc) := (bw6.cell (p := ⟨g, k * 3 + 2, none⟩) lg).trans y2
      have fz2 : w6.frozen? ⟨g, k * 3 + 2, none⟩ = false := by
        obtain ⟨_, cur, hc⟩ := own_heap (Row3.open D.out.1 |> fun _ => D.out.1) (g := g) rfl
        have := bw6.block g lg
        rw [hc] at this
        simp [World.frozen?, this]
      have FN : Hid (RowA w.heap.size (w6.setCell ⟨g, k * 3 + 2, none⟩ (.slice a6 n6 c6)) (.slice (some ⟨g, 0, none⟩) n c) ((ys ++ [(⟨x.id, x.tk, a6, n6, c6, x.bs⟩ : Ac)]) ++ xs.drop (k + 1)) ∧ (∀ y ∈ ys ++ [(⟨x.id, x.tk, a6, n6, c6, x.bs⟩ : Ac)], RowB 5 w.heap.size (w6.setCell ⟨g, k * 3 + 2, none⟩ (.slice a6 n6 c6)) (.slice y.ba y.bn y.bc) y.bs) ∧ (ys ++ [(⟨x.id, x.tk, a6, n6, c6, x.bs⟩ : Ac)]).Pairwise (fun a b => ∀ g, bkOf a = some g → bkOf b ≠ some g) ∧ (ys ++ [(⟨x.id, x.tk, a6, n6, c6, x.bs⟩ : Ac)]).map core = (xs.take (k + 1)).map core ∧ Below w.heap.size w (w6.setCell ⟨g, k * 3 + 2, none⟩ (.slice a6 n6 c6))) := by
        have sg := setCell_grown w6 g (k * 3 + 2) (.slice a6 n6 c6)
        have r5 : RowA w.heap.size w6 (.slice (some ⟨g, 0, none⟩) n c) (ys ++ xs.drop k) := own_grown D.out.1 (grownBy_below bw6 none) (fun _ _ => by simp)
        have hg5 := own_heap r5 (g := g) rfl
        have keep : ∀ {y : Ac} {b : Nat}, RowB 5 b w6 (.slice y.ba y.bn y.bc) y.bs → RowB 5 b (w6.setCell ⟨g, k * 3 + 2, none⟩ (.slice a6 n6 c6)) (.slice y.ba y.bn y.bc) y.bs := fun hy => RowV.kept hy sg (fun g' e q => by
          injection q with q
          subst q
          obtain ⟨_, cur, hc⟩ := own_heap hy e
          obtain ⟨_, cur', hc'⟩ := hg5
          exact ne_ty hc hc' (by decide) rfl)
        refine ⟨?_, fun y hy => ?_, ?_, ?_, ?_⟩
        · have := rowA_set (a' := a6) (n' := n6) (c' := c6) x.bs r5 D.out.2.2.2.2.2.2.2
          have e : (ys ++ xs.drop k).set k ⟨x.id, x.tk, a6, n6, c6, x.bs⟩ = (ys ++ [⟨x.id, x.tk, a6, n6, c6, x.bs⟩]) ++ xs.drop (k + 1) := by
            have hd : xs.drop k = x :: xs.drop (k + 1) := by
              obtain ⟨hl, e⟩ := List.getElem?_eq_some_iff.1 D.out.2.2.2.2.2.2.1
              rw [← e]; exact List.drop_eq_getElem_cons hl
            rw [hd, List.set_append_right _ _ (by rw [D.out.2.2.2.2.2.1]; exact Nat.le_refl _), D.out.2.2.2.2.2.1, Nat.sub_self]
            simp
          rw [e] at this
          exact this
        · rcases List.mem_append.1 hy with hy | hy
          · exact keep (RowV.later (D.out.2.1 y hy) bw6)
          · rw [List.mem_singleton.1 hy]
            exact keep (y := ⟨x.id, x.tk, a6, n6, c6, x.bs⟩) (RowV.mono r6 (Nat.le_trans D.out.2.2.2.2.1.size (by have := D2.out.1.size; omega)))
        · rw [List.pairwise_append]
          refine ⟨D.out.2.2.1, List.pairwise_singleton _ _, fun y hy z hz g' e1 e2 => ?_⟩
          rw [List.mem_singleton.1 hz] at e2
          have := RowV.block_lt (D.out.2.1 y hy) e1
          have := RowV.block_ge r6 e2
          have := D2.out.1.size
          have := HQ.out
          omega
        · rw [List.map_append, D.out.2.2.2.1, List.take_add_one, D.out.2.2.2.2.2.2.1, List.map_append]
          rfl
        · exact below_row (below_trans D.out.2.2.2.2.1 bw6) sg gg
      clear CL D2 r6 b6 bw6 q2 ltQ y0 y1 y2 hfz lg
      have hyl : Hid (ys.length = k) := D.out.2.2.2.2.2.1
      clear D
      go_wp2_with fail
      go_roundw
      case rel => exact ⟨k + 1, ys ++ [⟨x.id, x.tk, a6, n6, c6, x.bs⟩], by go_num, by omega, by simp [hyl.out], FN.out⟩
      case measure => simp [intOf]; omega
    · obtain rfl : k = n := by omega
      have e1 : xs.drop k = [] := List.drop_eq_nil_of_le (by rw [HN.out]; exact Nat.le_refl _)
      have e2 : xs.take k = xs := List.take_of_length_le (by rw [HN.out]; exact Nat.le_refl _)
      rw [e1, List.append_nil] at hr
      rw [e2] at hyc
      have FN : Hid (AccL w.heap.size wr (.slice a k c) ys ∧ ys.map core = xs.map core ∧ Below w.heap.size w wr) := ⟨⟨hr, hyb, hyd⟩, hyc, hbw⟩
      clear hr hyb hyd hyc hbw hyl
      go_wp2_with fail
      go_ret
      exact ⟨a, k, c, rfl, ys, FN.out⟩
end Go.Proofs.Ytcnhcdlbippjoaa
