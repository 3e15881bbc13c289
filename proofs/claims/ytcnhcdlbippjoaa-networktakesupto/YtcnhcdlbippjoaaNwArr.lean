/-
  Ours: what arrives.
-/
import Derived.Test.YtcnhcdlbippjoaaNwTake
namespace Go.Proofs.Ytcnhcdlbippjoaa
open Go.RowKit NwM

/-- A block that the network no longer knows. -/
theorem NetV.less {R bm : Nat} {S B : Nat → Prop} {ks : List Int} {t : Nt} {fv av : Value} {vs : List Value} {w : World} (h : NetV R bm S B ks t fv av vs w) (X : Nat → Prop) (x1 : ¬ X R) (x2 : ¬ X bm) (x3 : ∀ g, fv.ownBlock = some g → ¬ X g) (x4 : ∀ i, i < 10 → ∀ g, (vs.getD i undef).ownBlock = some g → ¬ X g) (x5 : ∀ g, av.ownBlock = some g → ¬ X g) :
    NetV R bm (fun g => S g ∧ ¬ X g) B ks t fv av vs w :=
  ⟨h.blk, h.lv, h.lf, h.ft, h.rows, h.acc, h.mp, h.bp, h.bq, fun g hg => h.s g hg.1, fun g hg => ⟨(h.b g hg).1, fun q => (h.b g hg).2 q.1⟩, ⟨h.sR, x1⟩, ⟨h.sm, x2⟩, fun g e => ⟨h.sf g e, x3 g e⟩, fun i hi g e => ⟨h.sv i hi g e, x4 i hi g e⟩, fun g e => ⟨h.sa g e, x5 g e⟩, h.nd, h.fok⟩

/-- What 'arrived' leaves. -/
def ArrAns (R : Nat) (S B : Nat → Prop) (t : Nt) (w : World) (e : Ending) (w' : World) : Prop := ∃ a c S', e = .returned (.slice a (t.fl.getD (t.now % 10) []).length c) ∧ RowP w' (.slice a (t.fl.getD (t.now % 10) []).length c) (t.fl.getD (t.now % 10) []) ∧
  NetAt R S' B { t with fl := t.fl.set (t.now % 10) [] } w' ∧ (∀ g, S' g → S g) ∧ (∀ g, (Value.slice a (t.fl.getD (t.now % 10) []).length c).ownBlock = some g → ¬ S' g) ∧ Kp S w w' ∧ ∀ p ∈ t.fl.getD (t.now % 10) [], Bd B w' p.ba p.bn p.bc p.bs
theorem arr_net {R : Nat} {S B : Nat → Prop} {t : Nt} {w : World} {bm i : Nat} {fv av : Value} {vs : List Value} (h : NetV R bm S B (t.ac.map (·.id)) t fv av vs w) (hi : t.now % 10 = i) : ArrAns R S B t w (.returned (vs.getD i undef)) (w.setCell ⟨R, 2 + i, none⟩ nilS) := by
  have hi10 : i < 10 := by omega
  obtain ⟨h1, h2, -, -⟩ := h.row (v' := nilS) (r := []) hi10 (Kp.refl _ _) (Row3.nil _ _ _ _) (fun g e => by cases e) (fun p hp => by cases hp)
  have e : (fun g => S g ∨ nilS.ownBlock = some g) = S := by funext g; simp [Value.ownBlock]
  rw [e] at h1
  have hr := h.rows i hi10
  obtain ⟨a, c, ev, -, -⟩ := hr.len
  have kr := kR R w (2 + i) nilS
  have h3 := h1.less (fun g => (vs.getD i undef).ownBlock = some g) (fun q => (h.nv hi10 q).1 rfl) (fun q => (h.nv hi10 q).2.1 rfl) (fun g q q' => (h.nv hi10 q').2.2.1 q) (fun j hj g q q' => ?_) (fun g q q' => (h.nv hi10 q').2.2.2 q)
  · refine ⟨a, c, fun g => S g ∧ ¬ (vs.getD i undef).ownBlock = some g, ?_, ?_, ⟨bm, fv, av, vs.set i nilS, ?_⟩, fun g hg => hg.1, fun g hg q => ?_, h2, fun p hp => ?_⟩
    · rw [hi, ev]
    · rw [hi, ← ev]
      exact own_kp hr kr (fun g q => (h.nv hi10 q).1)
    · rw [hi]; exact h3
    · rw [hi, ← ev] at hg; exact q.2 hg
    · rw [hi] at hp
      have hm : t.fl.getD i [] ∈ t.fl := by
        rw [List.getD_eq_getElem?_getD, List.getElem?_eq_getElem (by rw [h.lf]; exact hi10)]
        exact List.getElem_mem _
      exact (h.bp _ hm p hp).kp kr (fun g hg q => (h.b g hg).2 (q ▸ h.sR))
  · rw [getD_set _ _ _ _ _ (by rw [h.lv]; exact hi10)] at q
    by_cases hij : i = j
    · rw [if_pos hij] at q; cases q
    · rw [if_neg hij] at q
      exact h.nd i j hi10 hj hij g q' q
set_option maxRecDepth 20000 in
set_option maxHeartbeats 2000000 in
theorem arrived_at (R : Nat) (S B : Nat → Prop) (t : Nt) (w : World) (h : NetAt R S B t w) (hn : t.now ≤ 1000000000000) : Calls Try.prog 36 #[.pointer (some ⟨R, 0, none⟩)] w (ArrAns R S B t w) := by
  obtain ⟨bm, fv, av, vs, nv⟩ := h
  obtain ⟨i, hi⟩ : ∃ i, t.now % 10 = i := ⟨_, rfl⟩
  have FN : Hid (ArrAns R S B t w (.returned (vs.getD i undef)) (w.setCell ⟨R, 2 + i, none⟩ nilS)) := arr_net nv hi
  have hi10 : i < 10 := by omega
  have c0 := nv.c0
  have cv := nv.cv hi10
  have fz := nv.fz (2 + i)
  have ltR := nv.lt
  have eT : Int.tmod (t.now : Int) 10 = ((i : Nat) : Int) := by rw [Int.tmod_eq_emod_of_nonneg (by omega)]; omega
  obtain ⟨a, c, ev, -, -⟩ := (nv.rows i hi10).len
  rw [ev] at cv FN
  generalize (t.fl.getD i []).length = n at *
  obtain ⟨m, hm⟩ : ∃ m : Nat, t.now = m := ⟨_, rfl⟩
  rw [hm] at c0 eT hn
  have hii : ((i : Nat) : Int) < 10 := by omega
  clear nv ev hi hm
  go_enter Try.func36, Try.ntmps36
  go_wp2_with fail
  go_ret
  exact FN.out

theorem flying_len : ∀ (l : List (List Pk)) (k : Nat), ((l.take (k + 1)).map List.length).sum = ((l.take k).map List.length).sum + (l.getD k []).length
  | [], k => by simp
  | r :: l, 0 => by simp
  | r :: l, k + 1 => by
    have := flying_len l k
    simp at this ⊢
    omega
theorem flying_le : ∀ (l : List (List Pk)) (k : Nat), ((l.take k).map List.length).sum ≤ (l.map wr).sum
  | [], k => by simp
  | r :: l, 0 => by simp
  | r :: l, k + 1 => by
    have := flying_le l k
    have := wr_len r
    simp at *
    omega
set_option maxRecDepth 20000 in
set_option maxHeartbeats 2000000 in
theorem flying_at (R : Nat) (S B : Nat → Prop) (t : Nt) (w : World) (h : NetAt R S B t w) (hsz : sz t ≤ 1000000000000) : Calls Try.prog 27 #[.pointer (some ⟨R, 0, none⟩)] w fun e w' => e = .returned (.int .i64 ((flying t : Nat) : Int)) ∧ w = w' := by
  obtain ⟨bm, fv, av, vs, nv⟩ := h
  have lv := nv.lv
  have lf := nv.lf
  have NR : Hid (∀ k, k < 10 → ∃ a c, vs.getD k undef = .slice a (t.fl.getD k []).length c) := fun k hk => by
    obtain ⟨a, c, e, -, -⟩ := (nv.rows k hk).len
    exact ⟨a, c, e⟩
  have ltR := nv.lt
  have hr : w.rangeAt R 2 vs := fun j u hu => by
    have hj := (List.getElem?_eq_some_iff.1 hu).1
    have := nv.cv (i := j) (by omega)
    rw [this, List.getD_eq_getElem?_getD, hu]; rfl
  have HR : Hid (w.rangeAt R 2 vs ∧ vs.length = 10) := ⟨hr, lv⟩
  have hiT : (Try.prog.info? 54).map (·.size) = some 10 := by kernel_rfl
  have H0 : Hid (t.fl.length = 10 ∧ sz t ≤ 1000000000000) := ⟨lf, hsz⟩
  clear nv hr
  go_enter Try.func27, Try.ntmps27
  go_wp2_with (refine step_load rfl 54 _ rfl R 2 rfl vs _ HR.out.1 Try.underlying54 rfl (by rw [HR.out.2]; kernel_rfl) ?_)
  go_loopw [10, 3] (fun vk vc wr => ∃ k : Nat, vk = .int .i64 (k : Int) ∧ k ≤ 10 ∧ vc = .int .i64 ((((t.fl.take k).map List.length).sum : Nat) : Int) ∧ w = wr) (fun vk _ _ => 10 - (intOf vk).toNat)
  case atStart => exact ⟨0, rfl, by omega, rfl, rfl⟩
  case round =>
    obtain ⟨k, rfl, hk, rfl, rfl⟩ := hrel
    by_cases hlt : (k : Int) < 10
    · obtain ⟨a, c, ev⟩ := NR.out k (by omega)
      have he := flying_len t.fl k
      have hle := flying_le t.fl (k + 1)
      have hbig : ((t.fl.take (k + 1)).map List.length).sum ≤ 1000000000000 := by
        have := H0.out.2
        unfold sz wt at this
        omega
      have HE : Hid (((t.fl.take (k + 1)).map List.length).sum = ((t.fl.take k).map List.length).sum + (t.fl.getD k []).length) := he
      generalize ((t.fl.take k).map List.length).sum = c0 at *
      generalize (t.fl.getD k []).length = n at *
      have r1 : ∀ w : World, (Instr.index 54 (.agg vs.toArray) (.int .i64 (k : Int))).run Try.prog w = .ok (.slice a n c) w := fun w => run_index_one 54 53 10 _ vs.toArray k (.slice a n c) Try.underlying54 (by omega) Try.underlying53 rfl (by kernel_rfl) (by
        rw [← ev, List.getElem?_toArray, List.getD_eq_getElem?_getD, List.getElem?_eq_getElem (by omega)]; rfl) w
      have hb : c0 + n ≤ 1000000000000 := by omega
      clear he hle ev
      go_wp2_with fail
      go_roundw
      case rel => exact ⟨k + 1, by go_num, by omega, by rw [HE.out]; go_num, trivial⟩
      case measure => simp [intOf]; omega
    · obtain rfl : k = 10 := by omega
      have e1 : t.fl.take 10 = t.fl := List.take_of_length_le (by rw [H0.out.1]; exact Nat.le_refl _)
      rw [e1]
      go_wp2_with fail
      go_ret
      exact ⟨rfl, rfl⟩
end Go.Proofs.Ytcnhcdlbippjoaa
