/-
  Ours: the order of entries counts for nothing: LedgerOrderless.
-/
import Derived.Test.YtkmmpffkmoaceaaDoorLedKept
namespace Go.Proofs.YtkmmpffkmoaceaaDoor
open Go.RowKit LedM

namespace LedM
theorem total_perm : ∀ {a b : List Int}, a.Perm b → total a = total b := by
  intro a b h
  induction h with
  | nil => rfl
  | cons x _ ih => simp only [total, ih]
  | swap x y l => simp only [total]; omega
  | trans _ _ h1 h2 => exact h1.trans h2
theorem mv_perm {a b : List Ent} (h : a.Perm b) (j : Int) : mv a j = mv b j := total_perm (h.map _)
theorem post_perm {l : List Int} {a b : List Ent} (h : a.Perm b) (hf : faultE a = 0) : postE l a = postE l b ∧ postB l a = postB l b := by
  have hb : faultE b = 0 := fault_all (fun e he => fault_zero hf e (h.mem_iff.2 he))
  have hm : moved l a = moved l b := ext12 (moved_len _ _) (moved_len _ _) (fun j hj => by rw [moved_at _ _ j hj, moved_at _ _ j hj, mv_perm h])
  have e : postE l a = postE l b := by unfold postE; rw [hf, hb, hm]
  exact ⟨e, by unfold postB; rw [e, hm]⟩
theorem entE_vals (e : Ent) : entE e = 0 ∨ entE e = 4 ∨ entE e = 80 := by
  unfold entE
  split
  · exact .inr (.inr rfl)
  · split
    · exact .inr (.inl rfl)
    · exact .inl rfl
theorem faultE_vals : ∀ es : List Ent, faultE es = 0 ∨ faultE es = 4 ∨ faultE es = 80
  | [] => .inl rfl
  | e :: r => by
    simp only [faultE]
    split
    · exact faultE_vals r
    · exact entE_vals e
theorem post_fault {l : List Int} {es : List Ent} (h4 : postE l es ≠ 4) (h80 : postE l es ≠ 80) : faultE es = 0 := by
  unfold postE at h4 h80
  rcases faultE_vals es with h | h | h
  · exact h
  · rw [h] at h4; simp at h4
  · rw [h] at h80; simp at h80
end LedM
theorem RdE.cutlo {w : World} {a : Option Addr} {n c : Nat} {es : List Ent} (h : RdE w (.slice a n c) es) {k : Nat} (hk : k ≤ n) : RdE w (sliced a k n c 3) (es.drop k) := by
  obtain ⟨ao, cap, e, h1, h2, h3⟩ := id h
  injection e with e1 e2 e3
  subst e1 e3
  unfold sliced
  by_cases hc : c = k
  · rw [if_pos hc]
    have : es.drop k = [] := List.drop_eq_nil_of_le (by omega)
    rw [this]
    exact ⟨a, c - k, by rw [show n - k = 0 from by omega]; rfl, Nat.zero_le _, (fun h => by have := h2 h; omega), fun i hi => by simp at hi⟩
  · rw [if_neg hc]
    cases a with
    | none => exact absurd (h2 rfl) (by omega)
    | some ad =>
      by_cases hn : n = 0
      · have : es.drop k = [] := List.drop_eq_nil_of_le (by omega)
        rw [this]
        exact ⟨_, c - k, by rw [show n - k = 0 from by omega]; rfl, Nat.zero_le _, (fun h => by cases h), fun i hi => by simp at hi⟩
      · obtain ⟨g, o, e, _⟩ := h3 0 (by omega)
        cases e
        have hadd : (⟨g, o, none⟩ : Addr).add (k * 3) = ⟨g, o + k * 3, none⟩ := by unfold Addr.add; split <;> simp_all
        show RdE w (.slice (some ((⟨g, o, none⟩ : Addr).add (k * 3))) (n - k) (c - k)) _
        rw [hadd]
        exact h.drop hk
theorem sizeE : (Tryd.prog.info? 37).map (·.size) = some 3 := by kernel_rfl
theorem slice_lo (a : Option Addr) (n c k : Nat) (hk : k ≤ n) (W : World) : (Instr.slice 32 (.slice a n c) (some (.int .i64 (k : Int))) none none).run Tryd.prog W = .ok (sliced a k n c 3) W := by
  have hs : (sizeOf (Tryd.prog.elem 32)).run Tryd.prog W = .ok 3 W := by kernel_rfl
  rw [run_slice_l W 32 a n c (by kernel_rfl) .i64 (k : Int) (by omega) (by omega), hs]
  simp [Result.andThen]
theorem slice_hi (a : Option Addr) (n c k : Nat) (hk : k ≤ c) (W : World) : (Instr.slice 32 (.slice a n c) none (some (.int .i64 (k : Int))) none).run Tryd.prog W = .ok (.slice a k c) W := by
  have hs : (sizeOf (Tryd.prog.elem 32)).run Tryd.prog W = .ok 3 W := by kernel_rfl
  rw [run_slice_h W 32 a n c (by kernel_rfl) .i64 (k : Int) (by omega) (by omega), hs]
  by_cases h : c = 0
  · subst h
    obtain rfl : k = 0 := by omega
    simp [Result.andThen, sliced]
  · have hz : ∀ x : Addr, x.add 0 = x := fun x => by obtain ⟨b, o, s⟩ := x; unfold Addr.add; cases s <;> simp
    cases a <;> simp [Result.andThen, sliced, h, hz]

set_option maxRecDepth 20000 in
set_option maxHeartbeats 1000000 in
theorem orderless_any (l : List Int) (es : List Ent) (v : Value) (at' : Int) (w : World) (hl : BkOk l) (h : RdE w v es) (ok : ∀ e ∈ es, EntOk e) (hn : es.length ≤ 1048576) (t0 : -9223372036854775808 ≤ at') (t1 : at' ≤ 9223372036854775807) (hT : TabD w) :
    Calls Tryd.prog 4 #[.agg (bkL l).toArray, v, .int .i64 at'] w fun e w' => e = .returned (.bool true) ∧ Below w.heap.size w w' := by
  have KP : Hid (Kept w [(w.heap.size, l)] (w.alloc (.cells (bkL l).toArray 24))) := Kept.first w l hl.1
  have PO : Hid (∀ w' v' fs, Below w.heap.size w w' → RdE w' v' fs → fs.Perm es → Calls Tryd.prog 10 #[.agg (bkL l).toArray, v'] w' fun e w2 => e = .returned (.tuple #[.agg (bkL (postB l fs)).toArray, .int .i64 (postE l fs)]) ∧ Below w'.heap.size w' w2) := fun w' v' fs hb hr hp => post_at l fs v' w' hl (fun e he => ok e (hp.mem_iff.1 he)) (by have := hp.length_eq; omega) hr (hT.later hb)
  have OB : Hid (∀ fs, (postB l fs).length = 12) := fun fs => (postB_ok hl).1
  have PS : Hid (∀ w', Below w.heap.size w w' → Calls Tryd.prog 11 #[] w' fun e w2 => e = .returned (.bool true) ∧ Below w'.heap.size w' w2) := fun w' hb => posts_at w' (hT.later hb)
  have SM : Hid (∀ (m : List Int) (w' : World), m.length = 12 → Calls Tryd.prog 12 #[.agg (bkL m).toArray, .agg (bkL m).toArray] w' fun e w2 => e = .returned (.bool true) ∧ Below w'.heap.size w' w2) := fun m w' hm => by have := same_at m m w' hm hm; rwa [decide_eq_true rfl] at this
  have RD : Hid (∀ w', Below w.heap.size w w' → RdE w' v es) := fun w' hb => h.later hb
  obtain ⟨ao, cap, rfl, hcap, hno, _⟩ := h
  obtain ⟨L, hL⟩ : ∃ L, es.length = L := ⟨_, rfl⟩
  have HL : Hid (es.length = L) := hL
  have CE : Hid (∀ w', Below w.heap.size w w' → ∀ i, i < L → ∃ g o, ao = some ⟨g, o, none⟩ ∧ w'.rangeAt g (o + i * 3) (entL (eN es i))) := fun w' hb i hi => by
    obtain ⟨ao', cap', e, _, _, H⟩ := RD.out w' hb
    injection e with e1 e2 e3
    subst e1
    obtain ⟨g, o, e, _, r⟩ := H i (by omega)
    exact ⟨g, o, e, r⟩
  rw [hL] at hcap hn RD ⊢
  have PF : Hid (postE l es ≠ 4 → postE l es ≠ 80 → faultE es = 0) := fun a b => post_fault a b
  obtain ⟨E, HE⟩ : ∃ E, Hid (postE l es = E) := ⟨_, rfl⟩
  clear hl ok hT hL
  go_enter Tryd.func4, Tryd.ntmps4
  go_wp2_with (first
  | (refine step_get KP.out 0 rfl rfl _ rfl rfl ?_))
  refine (PO.out _ _ es KP.out.bb (RD.out _ KP.out.bb) (List.Perm.refl _)).mono ?_
  rintro e w1 ⟨rfl, bw1⟩
  have KP' : Kept _ _ w1 := KP.out.call bw1
  clear KP bw1
  have KP : Hid (Kept _ _ w1) := KP'
  clear KP'
  rw [HE.out]
  by_cases q80 : E = 80
  · subst q80
    go_wp2_with (first
  | (refine step_put KP.out (postB l es) (OB.out _) rfl _ _ rfl rfl rfl ?_; clear KP; intro w2 KP'; intro _; have KP : Hid (Kept _ _ _) := KP'; clear KP'))
    refine (PS.out _ KP.out.bb).mono ?_
    rintro e w3 ⟨rfl, bw3⟩
    have KP' : Kept _ _ w3 := KP.out.call bw3
    clear KP bw3
    have KP : Hid (Kept _ _ w3) := KP'
    clear KP'
    go_wp2_with fail
    go_ret
    exact ⟨rfl, KP.out.bb⟩
  have e80 : (E == 80) = false := beq_eq_false_iff_ne.2 q80
  by_cases q4 : E = 4
  · subst q4
    clear q80
    go_wp2_with (first
  | (refine step_put KP.out (postB l es) (OB.out _) rfl _ _ rfl rfl rfl ?_; clear KP; intro w2 KP'; intro _; have KP : Hid (Kept _ _ _) := KP'; clear KP'))
    refine (PS.out _ KP.out.bb).mono ?_
    rintro e w3 ⟨rfl, bw3⟩
    have KP' : Kept _ _ w3 := KP.out.call bw3
    clear KP bw3
    have KP : Hid (Kept _ _ w3) := KP'
    clear KP'
    go_wp2_with fail
    go_ret
    exact ⟨rfl, KP.out.bb⟩
  have e4 : (E == 4) = false := beq_eq_false_iff_ne.2 q4
  have FZ : Hid (faultE es = 0) := PF.out (by rw [HE.out]; exact q4) (by rw [HE.out]; exact q80)
  clear q80 q4 PF
  by_cases qa : at' < 0
  · have d1 : decide (at' < 0) = true := decide_eq_true qa
    go_wp2_with (first
  | (refine step_put KP.out (postB l es) (OB.out _) rfl _ _ rfl rfl rfl ?_; clear KP; intro w2 KP'; intro _; have KP : Hid (Kept _ _ _) := KP'; clear KP'))
    refine (PS.out _ KP.out.bb).mono ?_
    rintro e w3 ⟨rfl, bw3⟩
    have KP' : Kept _ _ w3 := KP.out.call bw3
    clear KP bw3
    have KP : Hid (Kept _ _ w3) := KP'
    clear KP'
    go_wp2_with fail
    go_ret
    exact ⟨rfl, KP.out.bb⟩
  have d1 : decide (at' < 0) = false := decide_eq_false qa
  by_cases qb : (L : Int) < at'
  · have d2 : decide ((L : Int) < at') = true := decide_eq_true qb
    clear qa qb
    go_wp2_with (first
  | (refine step_put KP.out (postB l es) (OB.out _) rfl _ _ rfl rfl rfl ?_; clear KP; intro w2 KP'; intro _; have KP : Hid (Kept _ _ _) := KP'; clear KP'))
    refine (PS.out _ KP.out.bb).mono ?_
    rintro e w3 ⟨rfl, bw3⟩
    have KP' : Kept _ _ w3 := KP.out.call bw3
    clear KP bw3
    have KP : Hid (Kept _ _ w3) := KP'
    clear KP'
    go_wp2_with fail
    go_ret
    exact ⟨rfl, KP.out.bb⟩
  have d2 : decide ((L : Int) < at') = false := decide_eq_false qb
  obtain ⟨k, rfl⟩ : ∃ k : Nat, at' = (k : Int) := ⟨at'.toNat, by omega⟩
  have hk : k ≤ L := by omega
  clear qa qb t0 t1
  have s1 := fun W => slice_lo ao L cap k hk W
  have s2 := fun W => slice_hi ao L cap k (by omega) W
  have RLO : Hid (∀ w', Below w.heap.size w w' → RdE w' (sliced ao k L cap 3) (es.drop k)) := fun w' hb => (RD.out w' hb).cutlo hk
  have RHI : Hid (∀ w', Below w.heap.size w w' → RdE w' (.slice ao k cap) (es.take k)) := fun w' hb => (RD.out w' hb).take hk
  generalize sliced ao k L cap 3 = vlo at *
  have NL : Hid ((es.drop k).length ≤ 1000000000 ∧ (es.drop k).length + (es.take k).length ≤ 1000000000) := by
    have := HL.out
    show _ ∧ _
    rw [List.length_drop, List.length_take]; omega
  have PM : Hid ((es.drop k ++ es.take k).Perm es ∧ es.reverse.Perm es) := ⟨by have := List.perm_append_comm (l₁ := es.drop k) (l₂ := es.take k); rwa [List.take_append_drop] at this, List.reverse_perm es⟩
  have hsz0 : ∀ p : Nat × List Int, p ∈ [(0, l)] → True := fun _ _ => trivial
  clear hsz0
  go_wp2_with (first
  | (refine step_put KP.out (postB l es) (OB.out _) rfl _ _ rfl rfl rfl ?_; clear KP; intro w2 KP'; intro _; have KP : Hid (Kept _ _ _) := KP'; clear KP')
  | (at_builtin; refine step_cat0 KP.out (.tmp 39) (.tmp 42) vlo (es.drop k) rfl rfl rfl rfl (RLO.out _ KP.out.bb) NL.out.1 ?_; intro va w3 r3 KP' kb3 kw3 b3; clear KP; have KP : Hid (Kept _ _ _) := KP'; have R3 : Hid (RowE _ _ _ _) := r3; have B3 : Hid (_ ∧ _ ∧ _) := ⟨kb3, kw3, b3.size⟩; clear KP' r3 kb3 kw3 b3)
  | (at_builtin; refine step_cat1 KP.out (.tmp 44) (.tmp 47) _ va (.slice ao k cap) (es.drop k) (es.take k) rfl rfl rfl R3.out B3.out.1 B3.out.2.1 B3.out.2.2 rfl (RHI.out _ KP.out.bb) NL.out.2 ?_; intro vb w4 r4 KP' g4; clear KP; have KP : Hid (Kept _ _ _) := KP'; have R4 : Hid (RowE _ _ _ _) := r4; clear KP' r4 g4 R3))
  have KB4 : Hid (∀ p ∈ [(w1.heap.size, postB l es), (w.heap.size, l)], p.1 < w4.heap.size) := KP.out.lt
  have RL4 : Hid (∀ g, vb.ownBlock = some g → g < w4.heap.size) := fun g hg => R4.out.lt hg
  have PT : Hid (postE l (es.drop k ++ es.take k) = E ∧ postB l (es.drop k ++ es.take k) = postB l es) := by
    have := post_perm (l := l) PM.out.1.symm FZ.out
    exact ⟨this.1.symm.trans HE.out, this.2.symm⟩
  have PR : Hid (postE l es.reverse = E ∧ postB l es.reverse = postB l es) := by
    have := post_perm (l := l) PM.out.2.symm FZ.out
    exact ⟨this.1.symm.trans HE.out, this.2.symm⟩
  have P1 : Hid (∀ w' v', Below w.heap.size w w' → RdE w' v' (es.drop k ++ es.take k) → Calls Tryd.prog 10 #[.agg (bkL l).toArray, v'] w' fun e w2 => e = .returned (.tuple #[.agg (bkL (postB l es)).toArray, .int .i64 E]) ∧ Below w'.heap.size w' w2) := fun w' v' hb hr => by have := PO.out w' v' _ hb hr PM.out.1; rwa [PT.out.1, PT.out.2] at this
  have P2 : Hid (∀ w' v', Below w.heap.size w w' → RdE w' v' es.reverse → Calls Tryd.prog 10 #[.agg (bkL l).toArray, v'] w' fun e w2 => e = .returned (.tuple #[.agg (bkL (postB l es)).toArray, .int .i64 E]) ∧ Below w'.heap.size w' w2) := fun w' v' hb hr => by have := PO.out w' v' _ hb hr PM.out.2; rwa [PR.out.1, PR.out.2] at this
  have RT : Hid (∀ k', k' < L → (es.drop k').reverse = (es.drop (k' + 1)).reverse ++ [eN es k'] ∧ (es.drop (k' + 1)).length + 1 ≤ 1000000000) := fun k' h => by
    have := HL.out
    refine ⟨by rw [drop_eN (by omega), List.reverse_cons], by rw [List.length_drop]; omega⟩
  have LM : Hid ((postB l es).length = 12) := OB.out es
  clear PT PR FZ PO PM RLO RHI NL B3 OB RD HE e80 e4 d1 d2 s1 s2
  generalize hT' : es.drop k ++ es.take k = tu at *
  generalize postB l es = pb at *
  have hL1 : Hid (es.drop L = [] ∧ es.drop 0 = es) := ⟨List.drop_eq_nil_of_le (by have := HL.out; omega), rfl⟩
  clear hT'
  have e1 : (E == E) = true := beq_self_eq_true E
  go_loopw [10, 11] (fun v i wr => ∃ t : Nat, t ≤ L ∧ i = .int .i64 ((t : Int) - 1) ∧ RowE w4.heap.size wr v (es.drop t).reverse ∧ Kept w [(w1.heap.size, pb), (w.heap.size, l)] wr ∧ RowE w2.heap.size wr vb tu ∧ w4.heap.size ≤ wr.heap.size) (fun _ i _ => (intOf i + 1).toNat)
  case atStart => exact ⟨L, by omega, by go_num, by rw [hL1.out.1]; exact RowE.nil _ _, KP.out, R4.out, Nat.le_refl _⟩
  case round =>
    clear KP R4
    obtain ⟨t, ht, rfl, hown, kp, r4, hsz⟩ := hrel
    by_cases htl : 0 < t
    · obtain ⟨k', rfl⟩ : ∃ k', t = k' + 1 := ⟨t - 1, by omega⟩
      have ek : ((k' + 1 : Nat) : Int) - 1 = (k' : Int) := by omega
      rw [ek]
      have hkl : (k' : Int) < (L : Int) := by omega
      obtain ⟨g, o, rfl, rg⟩ := CE.out wr kp.bb k' (by omega)
      obtain ⟨rt1, rt2⟩ := RT.out k' (by omega)
      have RG : Hid (wr.rangeAt g (o + k' * 3) (entL (eN es k'))) := rg
      have RT1 : Hid ((es.drop k').reverse = (es.drop (k' + 1)).reverse ++ [eN es k']) := rt1
      have RT2 : Hid ((es.drop (k' + 1)).reverse.length + [eN es k'].length ≤ 1000000000) := by show _ ≤ _; rw [List.length_reverse]; exact rt2
      generalize eN es k' = x at *
      have hel : (entL x).length = 3 := rfl
      have KP : Hid (Kept w [(w1.heap.size, pb), (w.heap.size, l)] (wr.alloc (.cells (entL x).toArray 37))) := kp.alloc _
      have OW : Hid (RowE w4.heap.size (wr.alloc (.cells (entL x).toArray 37)) u10 (es.drop (k' + 1)).reverse) := hown.later (below_alloc wr _)
      have R4 : Hid (RowE w2.heap.size (wr.alloc (.cells (entL x).toArray 37)) vb tu) := r4.later (below_alloc wr _)
      have ON : Hid (RdE (wr.alloc (.cells (entL x).toArray 37)) (.slice (some ⟨wr.heap.size, 0, none⟩) 1 1) [x]) := RdE.one wr x
      have hw4 : Hid (w.heap.size ≤ w4.heap.size ∧ w4.heap.size ≤ wr.heap.size) := ⟨by have := KB4.out (w.heap.size, l) (by simp); simp at this; omega, hsz⟩
      clear rg rt1 rt2 hown kp r4 P1 P2 PS SM CE RT
      go_wp2_with (first
        | (refine step_load rfl 37 _ rfl g (o + k' * 3) rfl (entL x) _ RG.out Tryd.underlying37 rfl (infoE _) ?_)
        | (at_builtin; refine step_cat1 KP.out (.tmp 56) (.tmp 61) w4.heap.size u10 (.slice (some ⟨wr.heap.size, 0, none⟩) 1 1) (es.drop (k' + 1)).reverse [x] rfl rfl rfl OW.out KB4.out hw4.out.1 (by have := hw4.out.2; simp; omega) rfl ON.out RT2.out ?_; intro vc w5 r5 KP' g5))
      go_roundw
      case rel =>
        refine ⟨k', by omega, by go_num, by rw [RT1.out]; exact r5, KP', R4.out.kept g5 (fun g hg e => by have := OW.out.ge e; have := RL4.out g hg; omega), ?_⟩
        have := g5.size
        have := hw4.out.2
        simp at *
        omega
      case measure => simp [intOf]
    · obtain rfl : t = 0 := by omega
      have KP : Hid (Kept w [(w1.heap.size, pb), (w.heap.size, l)] wr) := kp
      have R4 : Hid (RdE wr vb tu) := r4.rd
      have RB : Hid (RdE wr u10 es.reverse) := by have := hown.rd; rwa [hL1.out.2] at this
      clear kp r4 hown CE RT htl
      have ez : ((0 : Nat) : Int) - 1 = -1 := rfl
      rw [ez]
      clear ez
      go_wp2_with (first
  | (refine step_get KP.out 0 rfl rfl _ rfl rfl ?_)
  | (refine step_get KP.out 1 rfl rfl _ rfl rfl ?_))
      refine (P1.out _ _ KP.out.bb R4.out).mono ?_
      rintro e w5 ⟨rfl, b5⟩
      have KP5 : Hid (Kept _ _ w5) := KP.out.call b5
      have RB5 : Hid (RdE w5 u10 es.reverse) := RB.out.later b5
      clear KP b5 R4 RB P1
      have KP : Hid (Kept _ _ w5) := KP5.out
      clear KP5
      have RA5 : Hid (∀ w', Kept w [(w5.heap.size, pb), (w1.heap.size, pb), (w.heap.size, l)] w' → Below w5.heap.size w5 w' → RdE w' u10 es.reverse) := fun w' _ hb => RB5.out.later hb
      go_wp2_with (first
  | (refine step_putB KP.out pb LM.out rfl _ _ rfl rfl rfl ?_; clear KP; intro w6 KP'; intro b6; have KP : Hid (Kept _ _ _) := KP'; have RB6 : Hid (RdE w6 u10 es.reverse) := RB5.out.later b6; clear KP' b6 RB5 RA5)
  | (refine step_get KP.out 0 rfl rfl _ rfl rfl ?_)
  | (refine step_get KP.out 1 rfl rfl _ rfl rfl ?_)
  | (refine step_get KP.out 2 rfl rfl _ rfl rfl ?_))
      refine (P2.out _ _ KP.out.bb RB6.out).mono ?_
      rintro e w7 ⟨rfl, b7⟩
      have KP7 : Hid (Kept _ _ w7) := KP.out.call b7
      clear KP b7 RB6 P2
      have KP : Hid (Kept _ _ w7) := KP7.out
      clear KP7
      go_wp2_with (first
  | (refine step_put KP.out pb LM.out rfl _ _ rfl rfl rfl ?_; clear KP; intro w8 KP'; intro _; have KP : Hid (Kept _ _ _) := KP'; clear KP')
  | (refine step_get KP.out 0 rfl rfl _ rfl rfl ?_)
  | (refine step_getG KP.out 0 rfl rfl _ rfl rfl ?_)
  | (refine step_get KP.out 1 rfl rfl _ rfl rfl ?_)
  | (refine step_getG KP.out 1 rfl rfl _ rfl rfl ?_)
  | (refine step_get KP.out 2 rfl rfl _ rfl rfl ?_)
  | (refine step_getG KP.out 2 rfl rfl _ rfl rfl ?_)
  | (refine step_get KP.out 3 rfl rfl _ rfl rfl ?_)
  | (refine step_getG KP.out 3 rfl rfl _ rfl rfl ?_))
      refine (SM.out pb _ LM.out).mono ?_
      rintro e w9 ⟨rfl, bw9⟩
      have KP' : Kept _ _ w9 := KP.out.call bw9
      clear KP bw9
      have KP : Hid (Kept _ _ w9) := KP'
      clear KP'
      go_wp2_with (first
  | (refine step_get KP.out 0 rfl rfl _ rfl rfl ?_)
  | (refine step_getG KP.out 0 rfl rfl _ rfl rfl ?_)
  | (refine step_get KP.out 1 rfl rfl _ rfl rfl ?_)
  | (refine step_getG KP.out 1 rfl rfl _ rfl rfl ?_)
  | (refine step_get KP.out 2 rfl rfl _ rfl rfl ?_)
  | (refine step_getG KP.out 2 rfl rfl _ rfl rfl ?_)
  | (refine step_get KP.out 3 rfl rfl _ rfl rfl ?_)
  | (refine step_getG KP.out 3 rfl rfl _ rfl rfl ?_))
      refine (SM.out pb _ LM.out).mono ?_
      rintro e w10 ⟨rfl, bw10⟩
      have KP' : Kept _ _ w10 := KP.out.call bw10
      clear KP bw10
      have KP : Hid (Kept _ _ w10) := KP'
      clear KP'
      go_wp2_with fail
      refine (PS.out _ KP.out.bb).mono ?_
      rintro e w11 ⟨rfl, bw11⟩
      have KP' : Kept _ _ w11 := KP.out.call bw11
      clear KP bw11
      have KP : Hid (Kept _ _ w11) := KP'
      clear KP'
      go_wp2_with fail
      go_ret
      exact ⟨rfl, KP.out.bb⟩
end Go.Proofs.YtkmmpffkmoaceaaDoor
