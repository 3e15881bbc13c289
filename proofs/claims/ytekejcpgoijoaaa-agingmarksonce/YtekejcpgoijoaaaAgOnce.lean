/-
  Ours: the walk of AgingMarksOnce.
-/
import Derived.Test.YtekejcpgoijoaaaAgM2
import Derived.Test.YtekejcpgoijoaaaAgMiss
import Derived.Test.YtekejcpgoijoaaaAgLaw
import Derived.BigRegion
namespace Go.Proofs.Ytekejcpgoijoaaa
open Go.RowKit LedM AgM

theorem Row.shape {e : TypeId} {base : Nat} {w : World} {v : Value} {xs : List Int} (h : Row e base w v xs) : ∃ a c, v = .slice a xs.length c := by
  rcases h.2 with ⟨hv, h0⟩ | ⟨g, cap, cur, rfl, _⟩
  · exact ⟨none, 0, by rw [hv, h0]⟩
  · exact ⟨_, _, rfl⟩
theorem RowP.shape {base : Nat} {w : World} {v : Value} {xs : List Ins} (h : RowP base w v xs) : ∃ a c, v = .slice a xs.length c := by
  rcases h.2 with ⟨hv, h0⟩ | ⟨g, cap, cur, rfl, _⟩
  · exact ⟨none, 0, by rw [hv, h0]⟩
  · exact ⟨_, _, rfl⟩
theorem heldPM {W w1 w2 : World} {Q G o : Nat} {A R : Int} {b : Bool} (hb : Below w1.heap.size w1 w2) (h : Below W.heap.size W w1 ∧ w1.cell? ⟨Q, 0, none⟩ = some (.int .i64 A) ∧ w1.cell? ⟨Q, 1, none⟩ = some (.int .i64 R) ∧ w1.cell? ⟨G, o, none⟩ = some (.bool b)) :
    Below W.heap.size W w2 ∧ w2.cell? ⟨Q, 0, none⟩ = some (.int .i64 A) ∧ w2.cell? ⟨Q, 1, none⟩ = some (.int .i64 R) ∧ w2.cell? ⟨G, o, none⟩ = some (.bool b) :=
  ⟨below_trans h.1 hb, (hb.cell (p := ⟨Q, 0, none⟩) (World.block_lt_of_cell? _ _ h.2.1)).trans h.2.1, (hb.cell (p := ⟨Q, 1, none⟩) (World.block_lt_of_cell? _ _ h.2.2.1)).trans h.2.2.1, (hb.cell (p := ⟨G, o, none⟩) (World.block_lt_of_cell? _ _ h.2.2.2)).trans h.2.2.2⟩
namespace AgM
theorem nI_mem {l : List Nat} {x : Int} (h : x ∈ nI l) : ∃ k ∈ l, x = (k : Int) := by
  unfold nI at h; obtain ⟨k, hk, e⟩ := List.mem_map.1 h; exact ⟨k, hk, e.symm⟩
theorem mem_nI {l : List Nat} {k : Nat} (h : k ∈ l) : (k : Int) ∈ nI l := List.mem_map.2 ⟨k, h, rfl⟩
/-- What was missed and marked is not missed again. -/
theorem miss_apart {l : List Ins} {n : Nat} {t' g : Int} {rows : List Int} {x : Int} (hx : x ∈ nI (msN (mkL l rows) n t' g l.length)) : x ∉ rows := by
  obtain ⟨k, hk, rfl⟩ := nI_mem hx
  obtain ⟨h1, h2⟩ := msN_mem.1 hk
  intro hr
  have : (iN (mkL l rows) k).m = true := by rw [mkL_at h1, if_pos (by simpa using hr)]; rfl
  unfold isM at h2
  simp [this] at h2
theorem miss_none {l : List Ins} {n : Nat} {t g : Int} : nI (msN (mkL l (nI (msN l n t g l.length))) n t g l.length) = [] := by
  rw [List.eq_nil_iff_forall_not_mem]
  intro x hx
  have hn := miss_apart hx
  obtain ⟨k, hk, rfl⟩ := nI_mem hx
  obtain ⟨h1, h2⟩ := msN_mem.1 hk
  refine hn (mem_nI (msN_mem.2 ⟨h1, ?_⟩))
  have e : (iN (mkL l (nI (msN l n t g l.length))) k) = iN l k := by
    rw [mkL_at h1, if_neg]
    intro hc; exact hn (by simpa using hc)
  unfold isM at h2 ⊢
  rwa [e] at h2
theorem miss_old {l : List Ins} {n : Nat} {t g : Int} (hn : n < l.length) (hm : (iN l n).m = false) (hg : 0 ≤ g) (hd : g < ltD (iN l n).d t) : (nI (msN l n t g l.length)).length ≠ 0 := by
  intro h
  have : n ∈ msN l n t g l.length := msN_mem.2 ⟨hn, by unfold isM; rw [hm, if_neg (by omega), decide_eq_true (Nat.le_refl n), decide_eq_true hd]; rfl⟩
  have := mem_nI this
  rw [List.eq_nil_of_length_eq_zero h] at this
  cases this
theorem mssL_in {l : List Ins} {n : Nat} {t g : Int} (hs : Snd l = true) : mssL l n t g = nI (msN l n t g l.length) := by unfold mssL; rw [sP_yes hs]
end AgM

set_option maxRecDepth 20000 in
set_option maxHeartbeats 8000000 in
theorem once_any (l : List Ins) (A R t t' gr : Int) (v : Value) (w : World) (ok : ∀ x ∈ l, InsOk x) (hA : i64 A) (ht : i64 t) (ht' : i64 t') (h : RdP w v l) :
    Calls Try.prog 8 #[v, .agg #[.int .i64 A, .int .i64 R], .int .i64 t, .int .i64 t', .int .i64 gr] w fun e w' => e = .returned (.bool true) ∧ Below w.heap.size w w' := by
  have BC : Hid (Below w.heap.size w (w.alloc (.cells #[.int .i64 A, .int .i64 R] 24)) ∧ (w.alloc (.cells #[.int .i64 A, .int .i64 R] 24)).cell? ⟨w.heap.size, 0, none⟩ = some (.int .i64 A) ∧ (w.alloc (.cells #[.int .i64 A, .int .i64 R] 24)).cell? ⟨w.heap.size, 1, none⟩ = some (.int .i64 R)) := ⟨below_alloc w _, (Blk.new 24 [.int .i64 A, .int .i64 R] w).cell 0 _ rfl, (Blk.new 24 [.int .i64 A, .int .i64 R] w).cell 1 _ rfl⟩
  have SL : Hid (∀ w', Below w.heap.size w w' → Calls Try.prog 9 #[v] w' fun e w2 => e = .returned (.bool (decide (0 < l.length ∧ l.length ≤ 400 ∧ Snd l = true))) ∧ Below w'.heap.size w' w2) := fun w' hb => soundL_at l v w' ok (h.later hb)
  by_cases hc : 0 < l.length ∧ l.length ≤ 400 ∧ Snd l = true
  case neg =>
    rw [decide_eq_false hc] at SL
    clear hc h ok
    go_enter Try.func8, Try.ntmps8
    go_wp2_with fail
    refine (SL.out _ BC.out.1).mono ?_
    rintro e w2 ⟨rfl, b2⟩
    have B2 : Hid (Below w.heap.size w w2 ∧ w2.cell? ⟨w.heap.size, 0, none⟩ = some (.int .i64 A) ∧ w2.cell? ⟨w.heap.size, 1, none⟩ = some (.int .i64 R)) := heldP b2 BC.out
    clear b2 BC SL
    go_wp2_with fail
    go_ret
    exact ⟨rfl, B2.out.1⟩
  case pos =>
    rw [decide_eq_true hc] at SL
    obtain ⟨l0, l4, hs⟩ := hc
    obtain ⟨n, hn⟩ := SatF.ex l A R
    have hle := hn.le
    obtain ⟨rows, hrows⟩ : ∃ rows, nI (msN l n t gr l.length) = rows := ⟨_, rfl⟩
    obtain ⟨l', hl'⟩ : ∃ l', mkL l rows = l' := ⟨_, rfl⟩
    have hlen : l'.length = l.length := by rw [← hl', mkL_len]
    have hs' : Snd l' = true := by rw [← hl', mkL_snd]; exact hs
    have hn' : SatF l' A R n := by rw [← hl']; exact mkL_sat.2 hn
    have ok' : ∀ x ∈ l', InsOk x := by rw [← hl']; exact mkL_ok rows ok
    have hrl : rows.length ≤ 400 := by rw [← hrows]; unfold nI; rw [List.length_map]; exact Nat.le_trans (msN_len _ _ _ _ _) l4
    have MS1 : Hid (∀ v' w', RdP w' v' l → Calls Try.prog 16 #[v', .agg #[.int .i64 A, .int .i64 R], .int .i64 t, .int .i64 gr] w' fun e w2 => ∃ a c, e = .returned (.slice a rows.length c) ∧ Row 3 w'.heap.size w2 (.slice a rows.length c) rows ∧ Below w'.heap.size w' w2) := fun v' w' hr => by
      refine (miss_at l A R t gr n v' w' (by omega) ok hA ht (by rw [sP_yes hs]; exact hn) hr).mono fun e w2 ⟨vm, he, rm, b⟩ => ?_
      rw [mssL_in hs, hrows] at rm
      obtain ⟨a, c, rfl⟩ := rm.shape
      exact ⟨a, c, he, rm, b⟩
    obtain ⟨again, hag⟩ : ∃ xs, nI (msN l' n t' gr l.length) = xs := ⟨_, rfl⟩
    have APT : Hid (∀ i j, i < again.length → j < rows.length → again.getD i 0 ≠ rows.getD j 0) := fun i j hi hj => by
      have h1 : again.getD i 0 ∈ again := by rw [List.getD_eq_getElem?_getD, List.getElem?_eq_getElem hi]; exact List.getElem_mem hi
      have h2 : rows.getD j 0 ∈ rows := by rw [List.getD_eq_getElem?_getD, List.getElem?_eq_getElem hj]; exact List.getElem_mem hj
      have h3 : again.getD i 0 ∉ rows := miss_apart (l := l) (n := n) (t' := t') (g := gr) (rows := rows) (by rw [hl', hag]; exact h1)
      exact fun e => h3 (by rw [e]; exact h2)
    have hal : again.length ≤ 400 := by rw [← hag]; unfold nI; rw [List.length_map]; exact Nat.le_trans (msN_len _ _ _ _ _) l4
    have MS2 : Hid (∀ v' w', RdP w' v' l' → Calls Try.prog 16 #[v', .agg #[.int .i64 A, .int .i64 R], .int .i64 t', .int .i64 gr] w' fun e w2 => ∃ a c, e = .returned (.slice a again.length c) ∧ Row 3 w'.heap.size w2 (.slice a again.length c) again ∧ Below w'.heap.size w' w2) := fun v' w' hr => by
      refine (miss_at l' A R t' gr n v' w' (by omega) ok' hA ht' (by rw [sP_yes hs']; exact hn') hr).mono fun e w2 ⟨vm, he, rm, b⟩ => ?_
      rw [mssL_in hs', hlen, hag] at rm
      obtain ⟨a, c, rfl⟩ := rm.shape
      exact ⟨a, c, he, rm, b⟩
    have MS3 : Hid (∀ v' w', RdP w' v' l' → Calls Try.prog 16 #[v', .agg #[.int .i64 A, .int .i64 R], .int .i64 t, .int .i64 gr] w' fun e w2 => ∃ a c, e = .returned (.slice a 0 c) ∧ Below w'.heap.size w' w2) := fun v' w' hr => by
      refine (miss_at l' A R t gr n v' w' (by omega) ok' hA ht (by rw [sP_yes hs']; exact hn') hr).mono fun e w2 ⟨vm, he, rm, b⟩ => ?_
      rw [mssL_in hs', hlen, ← hl', ← hrows, miss_none] at rm
      obtain ⟨a, c, rfl⟩ := rm.shape
      exact ⟨a, c, he, b⟩
    have MRK : Hid (∀ v' vr w', RdP w' v' l → Reads w' vr rows → Calls Try.prog 17 #[v', vr] w' fun e w2 => ∃ a c, e = .returned (.slice a l.length c) ∧ RowP w'.heap.size w2 (.slice a l.length c) l' ∧ Below w'.heap.size w' w2) := fun v' vr w' hr hq => by
      refine (mark_at l rows v' vr w' (by omega) (by omega) hr hq).mono fun e w2 ⟨vm, he, rm, b⟩ => ?_
      rw [hl'] at rm
      obtain ⟨a, c, rfl⟩ := rm.shape
      rw [hlen] at *
      exact ⟨a, c, he, rm, b⟩
    have edd : daysV l' n t' = daysV l n t' := by
      unfold daysV; rw [sP_yes hs, sP_yes hs', hlen]
      split
      · rw [← hl', (mkL_row (by assumption)).1]
      · rfl
    have DL : Hid (∀ v' w', (RdP w' v' l ∨ RdP w' v' l') → Calls Try.prog 13 #[v', .agg #[.int .i64 A, .int .i64 R], .int .i64 t'] w' fun e w2 => e = .returned (.int .i64 (daysV l n t')) ∧ Below w'.heap.size w' w2) := fun v' w' hr => by
      rcases hr with hr | hr
      · exact days_at l A R t' n v' w' (by omega) ok hA ht' (by rw [sP_yes hs]; exact hn) hr
      · have := days_at l' A R t' n v' w' (by omega) ok' hA ht' (by rw [sP_yes hs']; exact hn') hr; rwa [edd] at this
    have CP : Hid (∀ w', Below w.heap.size w w' → Calls Try.prog 11 #[v] w' fun e w2 => ∃ v', e = .returned v' ∧ RowP w'.heap.size w2 v' l ∧ Below w'.heap.size w' w2) := fun w' hb => copied_at l v w' (by omega) (h.later hb)
    have OL : Hid (∀ v' w', RdP w' v' l → Calls Try.prog 12 #[v', .agg #[.int .i64 A, .int .i64 R]] w' fun e w2 => e = .returned (.tuple #[.int .i64 (oldK n l.length), .bool (oldB n l.length)]) ∧ Below w'.heap.size w' w2) := fun v' w' hr => by have := oldest_at l A R n v' w' (by omega) ok hA (by rw [sP_yes hs]; exact hn) hr; rwa [sP_yes hs] at this
    have DA : Hid (∀ v' w', RdP w' v' l → Calls Try.prog 13 #[v', .agg #[.int .i64 A, .int .i64 R], .int .i64 t] w' fun e w2 => e = .returned (.int .i64 (daysV l n t)) ∧ Below w'.heap.size w' w2) := fun v' w' hr => days_at l A R t n v' w' (by omega) ok hA ht (by rw [sP_yes hs]; exact hn) hr
    have OLD : Hid (n < l.length → (iN l n).m = false → 0 ≤ gr → gr < daysV l n t → rows.length ≠ 0) := fun h1 h2 h3 h4 => by
      rw [← hrows]; rw [daysV_in hs h1] at h4; exact miss_old h1 h2 h3 h4
    have h' := h
    obtain ⟨ao, cap, rfl, -, -, -⟩ := h
    have CE : Hid (∀ w', Below w.heap.size w w' → ∀ i, i < l.length → ∃ g o, ao = some ⟨g, o, none⟩ ∧ w'.rangeAt g (o + i * 4) (insL (iN l i))) := h'.cells
    generalize daysV l n t' = dd at *
    generalize daysV l n t = d at *
    obtain ⟨L, hL⟩ : ∃ L, l.length = L := ⟨_, rfl⟩
    obtain ⟨NR, hNR⟩ : ∃ N, rows.length = N := ⟨_, rfl⟩
    obtain ⟨NA, hNA⟩ : ∃ N, again.length = N := ⟨_, rfl⟩
    have HNR : Hid (rows.length = NR) := hNR
    have HNA : Hid (again.length = NA) := hNA
    rw [hL] at SL CP OL MRK OLD CE l0 l4 hle ⊢
    rw [hNR] at MS1 APT OLD hrl
    rw [hNA] at MS2 APT hal
    clear h' hs ok hn hL hs' hn' ok' hlen edd hag hrows hl' hNR hNA
    have qd : (dd == dd) = true := by simp
    have qL : ((L : Int) != (L : Int)) = false := by simp
    go_enter Try.func8, Try.ntmps8
    go_wp2_with fail
    refine (SL.out _ BC.out.1).mono ?_
    rintro e w2 ⟨rfl, b2⟩
    have B2 : Hid (Below w.heap.size w w2 ∧ w2.cell? ⟨w.heap.size, 0, none⟩ = some (.int .i64 A) ∧ w2.cell? ⟨w.heap.size, 1, none⟩ = some (.int .i64 R)) := heldP b2 BC.out
    clear b2 BC SL
    go_wp2_with fail
    go_region_held3 (fun w' => Below w2.heap.size w2 w' ∧ w'.cell? ⟨w.heap.size, 0, none⟩ = some (.int .i64 A) ∧ w'.cell? ⟨w.heap.size, 1, none⟩ = some (.int .i64 R)) (first | assumption | exact ⟨Below.drew (Below.refl _ _), B2.out.2.1, B2.out.2.2⟩ | exact heldP hU (by assumption)) (first | (go_at_call 11; refine (CP.out _ (below_trans B2.out.1 (And.left (by assumption)))).mono ?_; rintro e w1 ⟨v1, rfl, r1, hU⟩) | (go_at_call 16; refine (MS1.out _ _ r1.rd).mono ?_; rintro e w1 ⟨ma, mc, rfl, rm, hU⟩))
    have X1 : Below w2.heap.size w2 w1 ∧ w1.cell? ⟨w.heap.size, 0, none⟩ = some (.int .i64 A) ∧ w1.cell? ⟨w.heap.size, 1, none⟩ = some (.int .i64 R) := by assumption
    have B3 : Hid (Below w.heap.size w w1 ∧ w1.cell? ⟨w.heap.size, 0, none⟩ = some (.int .i64 A) ∧ w1.cell? ⟨w.heap.size, 1, none⟩ = some (.int .i64 R)) := ⟨below_trans B2.out.1 X1.1, X1.2.1, X1.2.2⟩
    obtain ⟨w3, rfl⟩ : ∃ x, x = w1 := ⟨_, rfl⟩
    clear hU r1
    have RM3 : Hid (Reads w3 (.slice ma NR mc) rows) := rm.reads
    clear rm X1 B2
    go_wp2_with fail
    go_region_held3 (fun w' => Below w3.heap.size w3 w' ∧ w'.cell? ⟨w.heap.size, 0, none⟩ = some (.int .i64 A) ∧ w'.cell? ⟨w.heap.size, 1, none⟩ = some (.int .i64 R)) (first | assumption | exact ⟨Below.drew (Below.refl _ _), B3.out.2.1, B3.out.2.2⟩ | exact heldP hU (by assumption)) (first | (go_at_call 11; refine (CP.out _ (below_trans B3.out.1 (And.left (by assumption)))).mono ?_; rintro e w1 ⟨v1, rfl, r1, hU⟩) | (go_at_call 12; refine (OL.out _ _ r1.rd).mono ?_; rintro e w1 ⟨rfl, hU⟩))
    have X1 : Below w3.heap.size w3 w1 ∧ w1.cell? ⟨w.heap.size, 0, none⟩ = some (.int .i64 A) ∧ w1.cell? ⟨w.heap.size, 1, none⟩ = some (.int .i64 R) := by assumption
    have B4 : Hid (Below w.heap.size w w1 ∧ w1.cell? ⟨w.heap.size, 0, none⟩ = some (.int .i64 A) ∧ w1.cell? ⟨w.heap.size, 1, none⟩ = some (.int .i64 R)) := ⟨below_trans B3.out.1 X1.1, X1.2.1, X1.2.2⟩
    obtain ⟨w4, rfl⟩ : ∃ x, x = w1 := ⟨_, rfl⟩
    clear hU r1
    have RM4 : Hid (Reads w4 (.slice ma NR mc) rows) := RM3.out.later X1.1
    clear X1 B3 RM3 MS1 OL
    have CUT : ∀ (w5 : World), Hid ((Below w.heap.size w w5 ∧ w5.cell? ⟨w.heap.size, 0, none⟩ = some (.int .i64 A) ∧ w5.cell? ⟨w.heap.size, 1, none⟩ = some (.int .i64 R)) ∧ Reads w5 (.slice ma NR mc) rows) → True := fun _ _ => trivial
    clear CUT
    obtain ⟨g0, o0, hao, rg0⟩ := CE.out w4 B4.out.1 0 (by omega)
    clear rg0
    subst hao
    by_cases c0 : n < L
    · have e1 : oldK n L = n := by simp [oldK]; omega
      have e2 : oldB n L = true := by simp [oldB]; omega
      rw [e1, e2]
      obtain ⟨g, o, hao, rg⟩ := CE.out w4 B4.out.1 n c0
      cases hao
      have c3 : w4.cell? ⟨g0, o0 + n * 4 + 3, none⟩ = some (.bool (iN l n).m) := rg 3 _ rfl
      have od := OLD.out c0
      have OD : Hid _ := od
      have q0 : (n : Int) < (L : Int) := by omega
      clear rg e1 e2 od OLD
      generalize (iN l n).m = mm at *
      cases mm
      · by_cases c1 : 0 ≤ gr
        · by_cases c2 : gr < d
          · have ne := OD.out rfl c1 c2
            have q1 : ((NR : Int) == 0) = false := by simp; omega
            have q2 : decide (0 ≤ gr) = true := decide_eq_true c1
            have q3 : decide (gr < d) = true := decide_eq_true c2
            clear ne OD
            go_wp2_with fail
            go_region_held3 (fun w' => Below w4.heap.size w4 w' ∧ w'.cell? ⟨w.heap.size, 0, none⟩ = some (.int .i64 A) ∧ w'.cell? ⟨w.heap.size, 1, none⟩ = some (.int .i64 R) ∧ w'.cell? ⟨g0, o0 + n * 4 + 3, none⟩ = some (.bool false)) (first | assumption | exact ⟨Below.drew (Below.refl _ _), B4.out.2.1, B4.out.2.2, c3⟩ | exact heldPM hU (by assumption)) (first | (go_at_call 11; refine (CP.out _ (below_trans B4.out.1 (And.left (by assumption)))).mono ?_; rintro e w1 ⟨v1, rfl, r1, hU⟩) | (go_at_call 13; refine (DA.out _ _ r1.rd).mono ?_; rintro e w1 ⟨rfl, hU⟩))
            have X1 : Below w4.heap.size w4 w1 ∧ w1.cell? ⟨w.heap.size, 0, none⟩ = some (.int .i64 A) ∧ w1.cell? ⟨w.heap.size, 1, none⟩ = some (.int .i64 R) ∧ w1.cell? ⟨g0, o0 + n * 4 + 3, none⟩ = some (.bool false) := by assumption
            have B5 : Hid ((Below w.heap.size w w1 ∧ w1.cell? ⟨w.heap.size, 0, none⟩ = some (.int .i64 A) ∧ w1.cell? ⟨w.heap.size, 1, none⟩ = some (.int .i64 R)) ∧ Reads w1 (.slice ma NR mc) rows) := ⟨⟨below_trans B4.out.1 X1.1, X1.2.1, X1.2.2.1⟩, RM4.out.later X1.1⟩
            obtain ⟨w5, rfl⟩ : ∃ x, x = w1 := ⟨_, rfl⟩
            clear X1 B4 RM4 hU r1 c3
            go_wp2_with fail
            refine (CP.out _ B5.out.1.1).mono ?_
            rintro e w6 ⟨v6, rfl, r6, b6⟩
            have R6 : Hid (RdP w6 v6 l ∧ Reads w6 (.slice ma NR mc) rows ∧ (Below w.heap.size w w6 ∧ w6.cell? ⟨w.heap.size, 0, none⟩ = some (.int .i64 A) ∧ w6.cell? ⟨w.heap.size, 1, none⟩ = some (.int .i64 R))) := ⟨r6.rd, B5.out.2.later b6, heldP b6 B5.out.1⟩
            clear r6 b6 B5
            go_wp2_with fail
            refine (MRK.out _ _ _ R6.out.1 R6.out.2.1).mono ?_
            rintro e w7 ⟨ka, kc, rfl, r7, b7⟩
            have R7 : Hid (RdP w7 (.slice ka L kc) l' ∧ Reads w7 (.slice ma NR mc) rows ∧ (Below w.heap.size w w7 ∧ w7.cell? ⟨w.heap.size, 0, none⟩ = some (.int .i64 A) ∧ w7.cell? ⟨w.heap.size, 1, none⟩ = some (.int .i64 R))) := ⟨r7.rd, R6.out.2.1.later b7, heldP b7 R6.out.2.2⟩
            clear r7 b7 R6 MRK
            have p0 := R7.out.2.2.2.1
            have p1 := R7.out.2.2.2.2
            go_wp2_with fail
            refine (MS2.out _ _ R7.out.1).mono ?_
            rintro e w8 ⟨aa, ac, rfl, r8, b8⟩
            have R8 : Hid (RdP w8 (.slice ka L kc) l' ∧ (Below w.heap.size w w8 ∧ w8.cell? ⟨w.heap.size, 0, none⟩ = some (.int .i64 A) ∧ w8.cell? ⟨w.heap.size, 1, none⟩ = some (.int .i64 R))) := ⟨R7.out.1.later b8, heldP b8 R7.out.2.2⟩
            have RA : Hid (∀ i, i < NA → ∃ g o, aa = some ⟨g, o, none⟩ ∧ w8.cell? ⟨g, o + i, none⟩ = some (.int .i64 (again.getD i 0))) := fun i hi => by
              rcases r8.reads with ⟨e, _⟩ | ⟨_, g, o, c, e, _, _, hc⟩
              · have := HNA.out; rw [e] at this; simp at this; omega
              · injection e with e1 _ _; exact ⟨g, o, e1, hc i (by rw [HNA.out]; exact hi)⟩
            have RR : Hid (∀ i, i < NR → ∃ g o, ma = some ⟨g, o, none⟩ ∧ w8.cell? ⟨g, o + i, none⟩ = some (.int .i64 (rows.getD i 0))) := fun i hi => by
              rcases R7.out.2.1.later b8 with ⟨e, _⟩ | ⟨_, g, o, c, e, _, _, hc⟩
              · have := HNR.out; rw [e] at this; simp at this; omega
              · injection e with e1 _ _; exact ⟨g, o, e1, hc i (by rw [HNR.out]; exact hi)⟩
            clear r8 b8 R7 p0 p1 MS2 CE
            go_wp2_with fail
            go_loopw [16, 17] (fun vi _ wr => ∃ i n : Nat, vi = .int .i64 (i : Int) ∧ i ≤ NA ∧ wr = w8.drewN n) (fun vi _ _ => NA - (intOf vi).toNat)
            case atStart => exact ⟨0, 0, rfl, by omega, rfl⟩
            case round =>
              obtain ⟨i, m, rfl, hi', rfl⟩ := hrel
              by_cases hlt : (i : Int) < (NA : Int)
              · obtain ⟨g1, o1, rfl, ca⟩ := RA.out i (by omega)
                go_wp2_with fail
                go_loopw [17] (fun vj wr => ∃ j n : Nat, vj = .int .i64 (j : Int) ∧ j ≤ NR ∧ wr = w8.drewN n) (fun vj _ => NR - (intOf vj).toNat)
                case atStart => exact ⟨0, m, rfl, by omega, rfl⟩
                case round =>
                  obtain ⟨j, m', rfl, hj', rfl⟩ := hrel
                  by_cases hlt2 : (j : Int) < (NR : Int)
                  · obtain ⟨g2, o2, rfl, cb⟩ := RR.out j (by omega)
                    have ne := APT.out i j (by omega) (by omega)
                    have q9 : (again.getD i 0 == rows.getD j 0) = false := by simpa using ne
                    clear ne
                    generalize again.getD i 0 = xa at *
                    generalize rows.getD j 0 = xr at *
                    go_wp2_with fail
                    go_quiet (fail)
                    go_wp2_with fail
                    go_roundw
                    case rel => exact ⟨j + 1, _, by go_num, by omega, rfl⟩
                    case measure => simp [intOf]; omega
                  · go_wp2_with fail
                    go_roundw
                    case rel => exact ⟨i + 1, m', by go_num, by omega, rfl⟩
                    case measure => simp [intOf]; omega
              · clear RA RR
                have B9 : Hid (Below w.heap.size w (w8.drewN m) ∧ (w8.drewN m).cell? ⟨w.heap.size, 0, none⟩ = some (.int .i64 A) ∧ (w8.drewN m).cell? ⟨w.heap.size, 1, none⟩ = some (.int .i64 R)) := ⟨below_drewN R8.out.2.1 _, R8.out.2.2.1, R8.out.2.2.2⟩
                have MK9 : Hid (∀ w', Below (w8.drewN m).heap.size (w8.drewN m) w' → RdP w' (.slice ka L kc) l') := fun w' hb => RdP.later (w := w8.drewN m) R8.out.1 hb
                clear R8
                go_wp2_with fail
                generalize w8.drewN m = w9 at *
                go_region_held3 (fun w' => Below w9.heap.size w9 w' ∧ w'.cell? ⟨w.heap.size, 0, none⟩ = some (.int .i64 A) ∧ w'.cell? ⟨w.heap.size, 1, none⟩ = some (.int .i64 R)) (first | assumption | exact ⟨Below.drew (Below.refl _ _), B9.out.2.1, B9.out.2.2⟩ | exact heldP hU (by assumption)) (first | (go_at_call 11; refine (CP.out _ (below_trans B9.out.1 (And.left (by assumption)))).mono ?_; rintro e w1 ⟨v1, rfl, r1, hU⟩) | (go_at_call 16; refine (MS3.out _ _ (MK9.out _ (And.left (by assumption)))).mono ?_; rintro e w1 ⟨qa, qc, rfl, hU⟩) | (go_at_call 13; refine (DL.out _ _ (by first | exact .inl r1.rd | exact .inr (MK9.out _ (And.left (by assumption))))).mono ?_; rintro e w1 ⟨rfl, hU⟩))
                have X1 : Below w9.heap.size w9 w1 ∧ w1.cell? ⟨w.heap.size, 0, none⟩ = some (.int .i64 A) ∧ w1.cell? ⟨w.heap.size, 1, none⟩ = some (.int .i64 R) := by assumption
                have B10 : Hid (Below w.heap.size w w1) := below_trans B9.out.1 X1.1
                clear X1
                go_wp2_with fail
                go_ret
                exact ⟨rfl, B10.out⟩
          · have q2 : decide (0 ≤ gr) = true := decide_eq_true c1
            have q3 : decide (gr < d) = false := decide_eq_false c2
            clear OD
            go_wp2_with fail
            refine wp_region_held_drew (S := fun w' => Below w4.heap.size w4 w' ∧ w'.cell? ⟨w.heap.size, 0, none⟩ = some (.int .i64 A) ∧ w'.cell? ⟨w.heap.size, 1, none⟩ = some (.int .i64 R) ∧ w'.cell? ⟨g0, o0 + n * 4 + 3, none⟩ = some (.bool false)) (by kernel_rfl) ⟨Below.drew (Below.refl _ _), B4.out.2.1, B4.out.2.2, c3⟩ (fun hH => ?_)
            refine wpAnyH_take (i := 0) (oi := { dst := some 34, op := Op.move (Operand.tmp 13), type := 4, pos := "outright.go:130", after := #[], guard := none }) (v := .bool true) rfl (by kernel_rfl) (by kernel_rfl) (by kernel_rfl) (fun _ _ _ h => h) (Or.inl ⟨by rfl, fun w' hs => by go_simp⟩) hH ?_
            simp only [Act.put, List.setIfInBounds_toArray, List.set_cons_zero, List.set_cons_succ]
            refine wpAnyH_take (i := 1) (oi := { dst := some 35, op := Op.move (Operand.tmp 34), type := 4, pos := "outright.go:130", after := #[{ on := 0, ground := Ground.data }], guard := none }) (v := .bool true) rfl (by kernel_rfl) (by kernel_rfl) (by kernel_rfl) (fun _ _ _ h => h) (Or.inl ⟨by rfl, fun w' hs => by go_simp⟩) hH ?_
            simp only [Act.put, List.setIfInBounds_toArray, List.set_cons_zero, List.set_cons_succ]
            refine wpAnyH_take (i := 2) (oi := { dst := some 36, op := Op.move (Operand.tmp 12), type := 3, pos := "outright.go:130", after := #[{ on := 1, ground := Ground.guard }], guard := some (1, true) }) (v := .int .i64 (n : Int)) rfl (by kernel_rfl) (by kernel_rfl) (by kernel_rfl) (fun _ _ _ h => h) (Or.inl ⟨by rfl, fun w' hs => by go_simp⟩) hH ?_
            simp only [Act.put, List.setIfInBounds_toArray, List.set_cons_zero, List.set_cons_succ]
            refine wpAnyH_take (i := 3) (oi := { dst := some 37, op := Op.binOp BinOp.geq 3 (Operand.tmp 36) (Operand.const (Value.int IntKind.i64 0)) 3, type := 4, pos := "outright.go:130", after := #[{ on := 2, ground := Ground.data }, { on := 1, ground := Ground.guard }], guard := some (1, true) }) (v := .bool true) rfl (by kernel_rfl) (by kernel_rfl) (by kernel_rfl) (fun _ _ _ h => h) (Or.inl ⟨by rfl, fun w' hs => by go_simp⟩) hH ?_
            simp only [Act.put, List.setIfInBounds_toArray, List.set_cons_zero, List.set_cons_succ]
            refine wpAnyH_take (i := 4) (oi := { dst := some 38, op := Op.pick (Operand.tmp 35) (Operand.tmp 37) (Operand.const (Value.bool false)), type := 4, pos := "outright.go:130", after := #[{ on := 1, ground := Ground.data }, { on := 3, ground := Ground.data }], guard := none }) (v := .bool true) rfl (by kernel_rfl) (by kernel_rfl) (by kernel_rfl) (fun _ _ _ h => h) (Or.inl ⟨by rfl, fun w' hs => by go_simp⟩) hH ?_
            simp only [Act.put, List.setIfInBounds_toArray, List.set_cons_zero, List.set_cons_succ]
            refine wpAnyH_take (i := 5) (oi := { dst := some 39, op := Op.move (Operand.tmp 38), type := 4, pos := "outright.go:130", after := #[{ on := 4, ground := Ground.data }, { on := 1, ground := Ground.chain }], guard := none }) (v := .bool true) rfl (by kernel_rfl) (by kernel_rfl) (by kernel_rfl) (fun _ _ _ h => h) (Or.inl ⟨by rfl, fun w' hs => by go_simp⟩) hH ?_
            simp only [Act.put, List.setIfInBounds_toArray, List.set_cons_zero, List.set_cons_succ]
            refine wpAnyH_take (i := 6) (oi := { dst := some 40, op := Op.move (Operand.tmp 12), type := 3, pos := "outright.go:130", after := #[{ on := 5, ground := Ground.guard }], guard := some (5, true) }) (v := .int .i64 (n : Int)) rfl (by kernel_rfl) (by kernel_rfl) (by kernel_rfl) (fun _ _ _ h => h) (Or.inl ⟨by rfl, fun w' hs => by go_simp⟩) hH ?_
            simp only [Act.put, List.setIfInBounds_toArray, List.set_cons_zero, List.set_cons_succ]
            refine wpAnyH_take (i := 7) (oi := { dst := some 41, op := Op.move (Operand.tmp 0), type := 22, pos := "outright.go:130", after := #[{ on := 5, ground := Ground.guard }], guard := some (5, true) }) (v := .slice (some ⟨g0, o0, none⟩) L cap) rfl (by kernel_rfl) (by kernel_rfl) (by kernel_rfl) (fun _ _ _ h => h) (Or.inl ⟨by rfl, fun w' hs => by go_simp⟩) hH ?_
            simp only [Act.put, List.setIfInBounds_toArray, List.set_cons_zero, List.set_cons_succ]
            refine wpAnyH_take (i := 8) (oi := { dst := some 42, op := Op.call { callee := Callee.builtin Builtin.len, args := #[Operand.tmp 41], argTypes := #[22] }, type := 3, pos := "outright.go:130", after := #[{ on := 7, ground := Ground.data }, { on := 5, ground := Ground.guard }], guard := some (5, true) }) (v := .int .i64 (L : Int)) rfl (by kernel_rfl) (by kernel_rfl) (by kernel_rfl) (fun _ _ _ h => h) (Or.inl ⟨by rfl, fun w' hs => by go_simp⟩) hH ?_
            simp only [Act.put, List.setIfInBounds_toArray, List.set_cons_zero, List.set_cons_succ]
            refine wpAnyH_take (i := 9) (oi := { dst := some 43, op := Op.binOp BinOp.lss 3 (Operand.tmp 40) (Operand.tmp 42) 3, type := 4, pos := "outright.go:130", after := #[{ on := 6, ground := Ground.data }, { on := 8, ground := Ground.data }, { on := 5, ground := Ground.guard }], guard := some (5, true) }) (v := .bool true) rfl (by kernel_rfl) (by kernel_rfl) (by kernel_rfl) (fun _ _ _ h => h) (Or.inl ⟨by rfl, fun w' hs => by go_simp⟩) hH ?_
            simp only [Act.put, List.setIfInBounds_toArray, List.set_cons_zero, List.set_cons_succ]
            refine wpAnyH_take (i := 10) (oi := { dst := some 44, op := Op.pick (Operand.tmp 39) (Operand.tmp 43) (Operand.const (Value.bool false)), type := 4, pos := "outright.go:130", after := #[{ on := 5, ground := Ground.data }, { on := 9, ground := Ground.data }], guard := none }) (v := .bool true) rfl (by kernel_rfl) (by kernel_rfl) (by kernel_rfl) (fun _ _ _ h => h) (Or.inl ⟨by rfl, fun w' hs => by go_simp⟩) hH ?_
            simp only [Act.put, List.setIfInBounds_toArray, List.set_cons_zero, List.set_cons_succ]
            refine wpAnyH_take (i := 11) (oi := { dst := some 45, op := Op.move (Operand.tmp 44), type := 4, pos := "outright.go:130", after := #[{ on := 10, ground := Ground.data }, { on := 5, ground := Ground.chain }], guard := none }) (v := .bool true) rfl (by kernel_rfl) (by kernel_rfl) (by kernel_rfl) (fun _ _ _ h => h) (Or.inl ⟨by rfl, fun w' hs => by go_simp⟩) hH ?_
            simp only [Act.put, List.setIfInBounds_toArray, List.set_cons_zero, List.set_cons_succ]
            refine wpAnyH_take (i := 12) (oi := { dst := some 46, op := Op.move (Operand.tmp 0), type := 22, pos := "outright.go:130", after := #[{ on := 11, ground := Ground.guard }], guard := some (11, true) }) (v := .slice (some ⟨g0, o0, none⟩) L cap) rfl (by kernel_rfl) (by kernel_rfl) (by kernel_rfl) (fun _ _ _ h => h) (Or.inl ⟨by rfl, fun w' hs => by go_simp⟩) hH ?_
            simp only [Act.put, List.setIfInBounds_toArray, List.set_cons_zero, List.set_cons_succ]
            refine wpAnyH_take (i := 13) (oi := { dst := some 47, op := Op.move (Operand.tmp 12), type := 3, pos := "outright.go:130", after := #[{ on := 11, ground := Ground.guard }], guard := some (11, true) }) (v := .int .i64 (n : Int)) rfl (by kernel_rfl) (by kernel_rfl) (by kernel_rfl) (fun _ _ _ h => h) (Or.inl ⟨by rfl, fun w' hs => by go_simp⟩) hH ?_
            simp only [Act.put, List.setIfInBounds_toArray, List.set_cons_zero, List.set_cons_succ]
            refine wpAnyH_take (i := 14) (oi := { dst := some 48, op := Op.indexAddr 22 (Operand.tmp 46) (Operand.tmp 47), type := 0, pos := "outright.go:130", after := #[{ on := 12, ground := Ground.data }, { on := 13, ground := Ground.data }, { on := 11, ground := Ground.guard }], guard := some (11, true) }) (v := .pointer (some ⟨g0, o0 + n * 4, none⟩)) rfl (by kernel_rfl) (by kernel_rfl) (by kernel_rfl) (fun _ _ _ h => h) (Or.inl ⟨by rfl, fun w' hs => by go_simp⟩) hH ?_
            simp only [Act.put, List.setIfInBounds_toArray, List.set_cons_zero, List.set_cons_succ]
            refine wpAnyH_take (i := 15) (oi := { dst := some 49, op := Op.fieldAddr 31 (Operand.tmp 48) 3, type := 0, pos := "outright.go:130", after := #[{ on := 14, ground := Ground.data }, { on := 11, ground := Ground.guard }], guard := some (11, true) }) (v := .pointer (some ⟨g0, o0 + n * 4 + 3, none⟩)) rfl (by kernel_rfl) (by kernel_rfl) (by kernel_rfl) (fun _ _ _ h => h) (Or.inl ⟨by rfl, fun w' hs => by go_simp⟩) hH ?_
            simp only [Act.put, List.setIfInBounds_toArray, List.set_cons_zero, List.set_cons_succ]
            refine wpAnyH_take (i := 16) (oi := { dst := some 50, op := Op.load 4 (Operand.tmp 49), type := 4, pos := "outright.go:130", after := #[{ on := 15, ground := Ground.data }, { on := 11, ground := Ground.guard }], guard := some (11, true) }) (v := .bool false) rfl (by kernel_rfl) (by kernel_rfl) (by kernel_rfl) (fun _ _ _ h => h) (Or.inl ⟨by rfl, fun w' hs => by obtain ⟨_, h0, h1, h2⟩ := hs; go_simp⟩) hH ?_
            simp only [Act.put, List.setIfInBounds_toArray, List.set_cons_zero, List.set_cons_succ]
            refine wpAnyH_take (i := 17) (oi := { dst := some 51, op := Op.unOp UnOp.not 4 (Operand.tmp 50), type := 4, pos := "outright.go:130", after := #[{ on := 16, ground := Ground.data }, { on := 11, ground := Ground.guard }], guard := some (11, true) }) (v := .bool true) rfl (by kernel_rfl) (by kernel_rfl) (by kernel_rfl) (fun _ _ _ h => h) (Or.inl ⟨by rfl, fun w' hs => by go_simp⟩) hH ?_
            simp only [Act.put, List.setIfInBounds_toArray, List.set_cons_zero, List.set_cons_succ]
            refine wpAnyH_take (i := 18) (oi := { dst := some 52, op := Op.pick (Operand.tmp 45) (Operand.tmp 51) (Operand.const (Value.bool false)), type := 4, pos := "outright.go:130", after := #[{ on := 11, ground := Ground.data }, { on := 17, ground := Ground.data }], guard := none }) (v := .bool true) rfl (by kernel_rfl) (by kernel_rfl) (by kernel_rfl) (fun _ _ _ h => h) (Or.inl ⟨by rfl, fun w' hs => by go_simp⟩) hH ?_
            simp only [Act.put, List.setIfInBounds_toArray, List.set_cons_zero, List.set_cons_succ]
            refine wpAnyH_take (i := 19) (oi := { dst := some 53, op := Op.move (Operand.tmp 52), type := 4, pos := "outright.go:130", after := #[{ on := 18, ground := Ground.data }, { on := 11, ground := Ground.chain }], guard := none }) (v := .bool true) rfl (by kernel_rfl) (by kernel_rfl) (by kernel_rfl) (fun _ _ _ h => h) (Or.inl ⟨by rfl, fun w' hs => by go_simp⟩) hH ?_
            simp only [Act.put, List.setIfInBounds_toArray, List.set_cons_zero, List.set_cons_succ]
            refine wpAnyH_take (i := 20) (oi := { dst := some 54, op := Op.move (Operand.tmp 4), type := 3, pos := "outright.go:130", after := #[{ on := 19, ground := Ground.guard }], guard := some (19, true) }) (v := .int .i64 gr) rfl (by kernel_rfl) (by kernel_rfl) (by kernel_rfl) (fun _ _ _ h => h) (Or.inl ⟨by rfl, fun w' hs => by go_simp⟩) hH ?_
            simp only [Act.put, List.setIfInBounds_toArray, List.set_cons_zero, List.set_cons_succ]
            refine wpAnyH_take (i := 21) (oi := { dst := some 55, op := Op.binOp BinOp.geq 3 (Operand.tmp 54) (Operand.const (Value.int IntKind.i64 0)) 3, type := 4, pos := "outright.go:130", after := #[{ on := 20, ground := Ground.data }, { on := 19, ground := Ground.guard }], guard := some (19, true) }) (v := .bool true) rfl (by kernel_rfl) (by kernel_rfl) (by kernel_rfl) (fun _ _ _ h => h) (Or.inl ⟨by rfl, fun w' hs => by go_simp⟩) hH ?_
            simp only [Act.put, List.setIfInBounds_toArray, List.set_cons_zero, List.set_cons_succ]
            refine wpAnyH_take (i := 22) (oi := { dst := some 56, op := Op.pick (Operand.tmp 53) (Operand.tmp 55) (Operand.const (Value.bool false)), type := 4, pos := "outright.go:130", after := #[{ on := 19, ground := Ground.data }, { on := 21, ground := Ground.data }], guard := none }) (v := .bool true) rfl (by kernel_rfl) (by kernel_rfl) (by kernel_rfl) (fun _ _ _ h => h) (Or.inl ⟨by rfl, fun w' hs => by go_simp⟩) hH ?_
            simp only [Act.put, List.setIfInBounds_toArray, List.set_cons_zero, List.set_cons_succ]
            refine wpAnyH_take (i := 23) (oi := { dst := some 57, op := Op.move (Operand.tmp 56), type := 4, pos := "outright.go:130", after := #[{ on := 22, ground := Ground.data }, { on := 19, ground := Ground.chain }], guard := none }) (v := .bool true) rfl (by kernel_rfl) (by kernel_rfl) (by kernel_rfl) (fun _ _ _ h => h) (Or.inl ⟨by rfl, fun w' hs => by go_simp⟩) hH ?_
            simp only [Act.put, List.setIfInBounds_toArray, List.set_cons_zero, List.set_cons_succ]
            refine wpAnyH_take (i := 24) (oi := { dst := some 58, op := Op.move (Operand.tmp 0), type := 22, pos := "outright.go:130", after := #[{ on := 23, ground := Ground.guard }], guard := some (23, true) }) (v := .slice (some ⟨g0, o0, none⟩) L cap) rfl (by kernel_rfl) (by kernel_rfl) (by kernel_rfl) (fun _ _ _ h => h) (Or.inl ⟨by rfl, fun w' hs => by go_simp⟩) hH ?_
            simp only [Act.put, List.setIfInBounds_toArray, List.set_cons_zero, List.set_cons_succ]
            refine wpAnyH_take (i := 26) (oi := { dst := some 60, op := Op.load 24 (Operand.tmp 6), type := 24, pos := "outright.go:130", after := #[{ on := 23, ground := Ground.guard }], guard := some (23, true) }) (v := .agg #[.int .i64 A, .int .i64 R]) rfl (by kernel_rfl) (by kernel_rfl) (by kernel_rfl) (fun _ _ _ h => h) (Or.inl ⟨by rfl, fun w' hs => by obtain ⟨_, h0, h1, h2⟩ := hs; go_simp⟩) hH ?_
            simp only [Act.put, List.setIfInBounds_toArray, List.set_cons_zero, List.set_cons_succ]
            refine wpAnyH_take (i := 27) (oi := { dst := some 61, op := Op.move (Operand.tmp 2), type := 3, pos := "outright.go:130", after := #[{ on := 23, ground := Ground.guard }], guard := some (23, true) }) (v := .int .i64 t) rfl (by kernel_rfl) (by kernel_rfl) (by kernel_rfl) (fun _ _ _ h => h) (Or.inl ⟨by rfl, fun w' hs => by go_simp⟩) hH ?_
            simp only [Act.put, List.setIfInBounds_toArray, List.set_cons_zero, List.set_cons_succ]
            refine wpAnyH_take (i := 29) (oi := { dst := some 63, op := Op.move (Operand.tmp 4), type := 3, pos := "outright.go:130", after := #[{ on := 23, ground := Ground.guard }], guard := some (23, true) }) (v := .int .i64 gr) rfl (by kernel_rfl) (by kernel_rfl) (by kernel_rfl) (fun _ _ _ h => h) (Or.inl ⟨by rfl, fun w' hs => by go_simp⟩) hH ?_
            simp only [Act.put, List.setIfInBounds_toArray, List.set_cons_zero, List.set_cons_succ]
            refine wpAnyH_ready (rs := [25]) (by kernel_rfl) (by simp) ?_
            refine AllReadyH.cons (o := { dst := some 59, op := Op.call { callee := Callee.value (Operand.func 11), args := #[Operand.tmp 58], argTypes := #[22] }, type := 22, pos := "outright.go:130", after := #[{ on := 24, ground := Ground.data }, { on := 23, ground := Ground.chain }, { on := 23, ground := Ground.guard }], guard := some (23, true) }) rfl (fun K hK => ?_) AllReadyH.nil
            go_simp
            refine (CP.out _ (below_trans B4.out.1 hH.1)).mono ?_
            rintro e wa ⟨v1, rfl, r1, ba⟩
            refine hK.out _ _ (heldPM ba hH) (fun hH => ?_)
            refine wpAnyH_ready (rs := [28]) (by kernel_rfl) (by simp) ?_
            refine AllReadyH.cons (o := { dst := some 62, op := Op.call { callee := Callee.value (Operand.func 13), args := #[Operand.tmp 59, Operand.tmp 60, Operand.tmp 61], argTypes := #[22, 24, 3] }, type := 3, pos := "outright.go:130", after := #[{ on := 25, ground := Ground.data }, { on := 26, ground := Ground.data }, { on := 27, ground := Ground.data }, { on := 25, ground := Ground.chain }, { on := 23, ground := Ground.guard }], guard := some (23, true) }) rfl (fun K hK => ?_) AllReadyH.nil
            go_simp
            refine (DA.out _ _ r1.rd).mono ?_
            rintro e wb ⟨rfl, bb⟩
            refine hK.out _ _ (heldPM bb hH) (fun hH => ?_)
            refine wpAnyH_take (i := 30) (oi := { dst := some 64, op := Op.binOp BinOp.gtr 3 (Operand.tmp 62) (Operand.tmp 63) 3, type := 4, pos := "outright.go:130", after := #[{ on := 28, ground := Ground.data }, { on := 29, ground := Ground.data }, { on := 23, ground := Ground.guard }], guard := some (23, true) }) (v := .bool false) rfl (by kernel_rfl) (by kernel_rfl) (by kernel_rfl) (fun _ _ _ h => h) (Or.inl ⟨by rfl, fun w' hs => by go_simp⟩) hH ?_
            simp only [Act.put, List.setIfInBounds_toArray, List.set_cons_zero, List.set_cons_succ]
            refine wpAnyH_take (i := 31) (oi := { dst := some 65, op := Op.pick (Operand.tmp 57) (Operand.tmp 64) (Operand.const (Value.bool false)), type := 4, pos := "outright.go:130", after := #[{ on := 23, ground := Ground.data }, { on := 30, ground := Ground.data }], guard := none }) (v := .bool false) rfl (by kernel_rfl) (by kernel_rfl) (by kernel_rfl) (fun _ _ _ h => h) (Or.inl ⟨by rfl, fun w' hs => by go_simp⟩) hH ?_
            simp only [Act.put, List.setIfInBounds_toArray, List.set_cons_zero, List.set_cons_succ]
            refine wpAnyH_take (i := 32) (oi := { dst := some 66, op := Op.move (Operand.tmp 65), type := 4, pos := "outright.go:130", after := #[{ on := 31, ground := Ground.data }, { on := 28, ground := Ground.chain }], guard := none }) (v := .bool false) rfl (by kernel_rfl) (by kernel_rfl) (by kernel_rfl) (fun _ _ _ h => h) (Or.inl ⟨by rfl, fun w' hs => by go_simp⟩) hH ?_
            simp only [Act.put, List.setIfInBounds_toArray, List.set_cons_zero, List.set_cons_succ]
            refine wpAnyH_take (i := 33) (oi := { dst := some 67, op := Op.move (Operand.tmp 11), type := 39, pos := "outright.go:130", after := #[{ on := 32, ground := Ground.guard }], guard := some (32, true) }) (v := undef) rfl (by kernel_rfl) (by kernel_rfl) (by kernel_rfl) (fun _ _ _ h => h) (Or.inr ⟨by rfl, rfl⟩) hH ?_
            simp only [Act.put, List.setIfInBounds_toArray, List.set_cons_zero, List.set_cons_succ]
            refine wpAnyH_take (i := 34) (oi := { dst := some 68, op := Op.call { callee := Callee.builtin Builtin.len, args := #[Operand.tmp 67], argTypes := #[39] }, type := 3, pos := "outright.go:130", after := #[{ on := 33, ground := Ground.data }, { on := 32, ground := Ground.guard }], guard := some (32, true) }) (v := undef) rfl (by kernel_rfl) (by kernel_rfl) (by kernel_rfl) (fun _ _ _ h => h) (Or.inr ⟨by rfl, rfl⟩) hH ?_
            simp only [Act.put, List.setIfInBounds_toArray, List.set_cons_zero, List.set_cons_succ]
            refine wpAnyH_take (i := 35) (oi := { dst := some 69, op := Op.binOp BinOp.eql 3 (Operand.tmp 68) (Operand.const (Value.int IntKind.i64 0)) 3, type := 4, pos := "outright.go:130", after := #[{ on := 34, ground := Ground.data }, { on := 32, ground := Ground.guard }], guard := some (32, true) }) (v := undef) rfl (by kernel_rfl) (by kernel_rfl) (by kernel_rfl) (fun _ _ _ h => h) (Or.inr ⟨by rfl, rfl⟩) hH ?_
            simp only [Act.put, List.setIfInBounds_toArray, List.set_cons_zero, List.set_cons_succ]
            refine wpAnyH_take (i := 36) (oi := { dst := some 70, op := Op.pick (Operand.tmp 66) (Operand.tmp 69) (Operand.const (Value.bool false)), type := 4, pos := "outright.go:130", after := #[{ on := 32, ground := Ground.data }, { on := 35, ground := Ground.data }], guard := none }) (v := .bool false) rfl (by kernel_rfl) (by kernel_rfl) (by kernel_rfl) (fun _ _ _ h => h) (Or.inl ⟨by rfl, fun w' hs => by go_simp⟩) hH ?_
            simp only [Act.put, List.setIfInBounds_toArray, List.set_cons_zero, List.set_cons_succ]
            refine wpAnyH_done (by kernel_rfl) ?_ _
            have B5 : Hid ((Below w.heap.size w wb ∧ wb.cell? ⟨w.heap.size, 0, none⟩ = some (.int .i64 A) ∧ wb.cell? ⟨w.heap.size, 1, none⟩ = some (.int .i64 R)) ∧ Reads wb (.slice ma NR mc) rows) := ⟨⟨below_trans B4.out.1 hH.1, hH.2.1, hH.2.2.1⟩, RM4.out.later hH.1⟩
            clear hH hK B4 RM4 r1 c3 ba bb
            obtain ⟨w5, rfl⟩ : ∃ x, x = wb := ⟨_, rfl⟩
            go_wp2_with fail
            refine (CP.out _ B5.out.1.1).mono ?_
            rintro e w6 ⟨v6, rfl, r6, b6⟩
            have R6 : Hid (RdP w6 v6 l ∧ Reads w6 (.slice ma NR mc) rows ∧ (Below w.heap.size w w6 ∧ w6.cell? ⟨w.heap.size, 0, none⟩ = some (.int .i64 A) ∧ w6.cell? ⟨w.heap.size, 1, none⟩ = some (.int .i64 R))) := ⟨r6.rd, B5.out.2.later b6, heldP b6 B5.out.1⟩
            clear r6 b6 B5
            go_wp2_with fail
            refine (MRK.out _ _ _ R6.out.1 R6.out.2.1).mono ?_
            rintro e w7 ⟨ka, kc, rfl, r7, b7⟩
            have R7 : Hid (RdP w7 (.slice ka L kc) l' ∧ Reads w7 (.slice ma NR mc) rows ∧ (Below w.heap.size w w7 ∧ w7.cell? ⟨w.heap.size, 0, none⟩ = some (.int .i64 A) ∧ w7.cell? ⟨w.heap.size, 1, none⟩ = some (.int .i64 R))) := ⟨r7.rd, R6.out.2.1.later b7, heldP b7 R6.out.2.2⟩
            clear r7 b7 R6 MRK
            have p0 := R7.out.2.2.2.1
            have p1 := R7.out.2.2.2.2
            go_wp2_with fail
            refine (MS2.out _ _ R7.out.1).mono ?_
            rintro e w8 ⟨aa, ac, rfl, r8, b8⟩
            have R8 : Hid (RdP w8 (.slice ka L kc) l' ∧ (Below w.heap.size w w8 ∧ w8.cell? ⟨w.heap.size, 0, none⟩ = some (.int .i64 A) ∧ w8.cell? ⟨w.heap.size, 1, none⟩ = some (.int .i64 R))) := ⟨R7.out.1.later b8, heldP b8 R7.out.2.2⟩
            have RA : Hid (∀ i, i < NA → ∃ g o, aa = some ⟨g, o, none⟩ ∧ w8.cell? ⟨g, o + i, none⟩ = some (.int .i64 (again.getD i 0))) := fun i hi => by
              rcases r8.reads with ⟨e, _⟩ | ⟨_, g, o, c, e, _, _, hc⟩
              · have := HNA.out; rw [e] at this; simp at this; omega
              · injection e with e1 _ _; exact ⟨g, o, e1, hc i (by rw [HNA.out]; exact hi)⟩
            have RR : Hid (∀ i, i < NR → ∃ g o, ma = some ⟨g, o, none⟩ ∧ w8.cell? ⟨g, o + i, none⟩ = some (.int .i64 (rows.getD i 0))) := fun i hi => by
              rcases R7.out.2.1.later b8 with ⟨e, _⟩ | ⟨_, g, o, c, e, _, _, hc⟩
              · have := HNR.out; rw [e] at this; simp at this; omega
              · injection e with e1 _ _; exact ⟨g, o, e1, hc i (by rw [HNR.out]; exact hi)⟩
            clear r8 b8 R7 p0 p1 MS2 CE
            go_wp2_with fail
            go_loopw [16, 17] (fun vi _ wr => ∃ i n : Nat, vi = .int .i64 (i : Int) ∧ i ≤ NA ∧ wr = w8.drewN n) (fun vi _ _ => NA - (intOf vi).toNat)
            case atStart => exact ⟨0, 0, rfl, by omega, rfl⟩
            case round =>
              obtain ⟨i, m, rfl, hi', rfl⟩ := hrel
              by_cases hlt : (i : Int) < (NA : Int)
              · obtain ⟨g1, o1, rfl, ca⟩ := RA.out i (by omega)
                go_wp2_with fail
                go_loopw [17] (fun vj wr => ∃ j n : Nat, vj = .int .i64 (j : Int) ∧ j ≤ NR ∧ wr = w8.drewN n) (fun vj _ => NR - (intOf vj).toNat)
                case atStart => exact ⟨0, m, rfl, by omega, rfl⟩
                case round =>
                  obtain ⟨j, m', rfl, hj', rfl⟩ := hrel
                  by_cases hlt2 : (j : Int) < (NR : Int)
                  · obtain ⟨g2, o2, rfl, cb⟩ := RR.out j (by omega)
                    have ne := APT.out i j (by omega) (by omega)
                    have q9 : (again.getD i 0 == rows.getD j 0) = false := by simpa using ne
                    clear ne
                    generalize again.getD i 0 = xa at *
                    generalize rows.getD j 0 = xr at *
                    go_wp2_with fail
                    go_quiet (fail)
                    go_wp2_with fail
                    go_roundw
                    case rel => exact ⟨j + 1, _, by go_num, by omega, rfl⟩
                    case measure => simp [intOf]; omega
                  · go_wp2_with fail
                    go_roundw
                    case rel => exact ⟨i + 1, m', by go_num, by omega, rfl⟩
                    case measure => simp [intOf]; omega
              · clear RA RR
                have B9 : Hid (Below w.heap.size w (w8.drewN m) ∧ (w8.drewN m).cell? ⟨w.heap.size, 0, none⟩ = some (.int .i64 A) ∧ (w8.drewN m).cell? ⟨w.heap.size, 1, none⟩ = some (.int .i64 R)) := ⟨below_drewN R8.out.2.1 _, R8.out.2.2.1, R8.out.2.2.2⟩
                have MK9 : Hid (∀ w', Below (w8.drewN m).heap.size (w8.drewN m) w' → RdP w' (.slice ka L kc) l') := fun w' hb => RdP.later (w := w8.drewN m) R8.out.1 hb
                clear R8
                go_wp2_with fail
                generalize w8.drewN m = w9 at *
                go_region_held3 (fun w' => Below w9.heap.size w9 w' ∧ w'.cell? ⟨w.heap.size, 0, none⟩ = some (.int .i64 A) ∧ w'.cell? ⟨w.heap.size, 1, none⟩ = some (.int .i64 R)) (first | assumption | exact ⟨Below.drew (Below.refl _ _), B9.out.2.1, B9.out.2.2⟩ | exact heldP hU (by assumption)) (first | (go_at_call 11; refine (CP.out _ (below_trans B9.out.1 (And.left (by assumption)))).mono ?_; rintro e w1 ⟨v1, rfl, r1, hU⟩) | (go_at_call 16; refine (MS3.out _ _ (MK9.out _ (And.left (by assumption)))).mono ?_; rintro e w1 ⟨qa, qc, rfl, hU⟩) | (go_at_call 13; refine (DL.out _ _ (by first | exact .inl r1.rd | exact .inr (MK9.out _ (And.left (by assumption))))).mono ?_; rintro e w1 ⟨rfl, hU⟩))
                have X1 : Below w9.heap.size w9 w1 ∧ w1.cell? ⟨w.heap.size, 0, none⟩ = some (.int .i64 A) ∧ w1.cell? ⟨w.heap.size, 1, none⟩ = some (.int .i64 R) := by assumption
                have B10 : Hid (Below w.heap.size w w1) := below_trans B9.out.1 X1.1
                clear X1
                go_wp2_with fail
                go_ret
                exact ⟨rfl, B10.out⟩
        · have q2 : decide (0 ≤ gr) = false := decide_eq_false c1
          clear OD
          go_wp2_with fail
          go_quiet (fail)
          have B5 : Hid ((Below w.heap.size w (w4.drewN nq) ∧ (w4.drewN nq).cell? ⟨w.heap.size, 0, none⟩ = some (.int .i64 A) ∧ (w4.drewN nq).cell? ⟨w.heap.size, 1, none⟩ = some (.int .i64 R)) ∧ Reads (w4.drewN nq) (.slice ma NR mc) rows) := ⟨⟨below_drewN B4.out.1 _, B4.out.2.1, B4.out.2.2⟩, RM4.out⟩
          clear B4 RM4
          generalize w4.drewN nq = w5 at *
          go_wp2_with fail
          refine (CP.out _ B5.out.1.1).mono ?_
          rintro e w6 ⟨v6, rfl, r6, b6⟩
          have R6 : Hid (RdP w6 v6 l ∧ Reads w6 (.slice ma NR mc) rows ∧ (Below w.heap.size w w6 ∧ w6.cell? ⟨w.heap.size, 0, none⟩ = some (.int .i64 A) ∧ w6.cell? ⟨w.heap.size, 1, none⟩ = some (.int .i64 R))) := ⟨r6.rd, B5.out.2.later b6, heldP b6 B5.out.1⟩
          clear r6 b6 B5
          go_wp2_with fail
          refine (MRK.out _ _ _ R6.out.1 R6.out.2.1).mono ?_
          rintro e w7 ⟨ka, kc, rfl, r7, b7⟩
          have R7 : Hid (RdP w7 (.slice ka L kc) l' ∧ Reads w7 (.slice ma NR mc) rows ∧ (Below w.heap.size w w7 ∧ w7.cell? ⟨w.heap.size, 0, none⟩ = some (.int .i64 A) ∧ w7.cell? ⟨w.heap.size, 1, none⟩ = some (.int .i64 R))) := ⟨r7.rd, R6.out.2.1.later b7, heldP b7 R6.out.2.2⟩
          clear r7 b7 R6 MRK
          have p0 := R7.out.2.2.2.1
          have p1 := R7.out.2.2.2.2
          go_wp2_with fail
          refine (MS2.out _ _ R7.out.1).mono ?_
          rintro e w8 ⟨aa, ac, rfl, r8, b8⟩
          have R8 : Hid (RdP w8 (.slice ka L kc) l' ∧ (Below w.heap.size w w8 ∧ w8.cell? ⟨w.heap.size, 0, none⟩ = some (.int .i64 A) ∧ w8.cell? ⟨w.heap.size, 1, none⟩ = some (.int .i64 R))) := ⟨R7.out.1.later b8, heldP b8 R7.out.2.2⟩
          have RA : Hid (∀ i, i < NA → ∃ g o, aa = some ⟨g, o, none⟩ ∧ w8.cell? ⟨g, o + i, none⟩ = some (.int .i64 (again.getD i 0))) := fun i hi => by
            rcases r8.reads with ⟨e, _⟩ | ⟨_, g, o, c, e, _, _, hc⟩
            · have := HNA.out; rw [e] at this; simp at this; omega
            · injection e with e1 _ _; exact ⟨g, o, e1, hc i (by rw [HNA.out]; exact hi)⟩
          have RR : Hid (∀ i, i < NR → ∃ g o, ma = some ⟨g, o, none⟩ ∧ w8.cell? ⟨g, o + i, none⟩ = some (.int .i64 (rows.getD i 0))) := fun i hi => by
            rcases R7.out.2.1.later b8 with ⟨e, _⟩ | ⟨_, g, o, c, e, _, _, hc⟩
            · have := HNR.out; rw [e] at this; simp at this; omega
            · injection e with e1 _ _; exact ⟨g, o, e1, hc i (by rw [HNR.out]; exact hi)⟩
          clear r8 b8 R7 p0 p1 MS2 CE
          go_wp2_with fail
          go_loopw [16, 17] (fun vi _ wr => ∃ i n : Nat, vi = .int .i64 (i : Int) ∧ i ≤ NA ∧ wr = w8.drewN n) (fun vi _ _ => NA - (intOf vi).toNat)
          case atStart => exact ⟨0, 0, rfl, by omega, rfl⟩
          case round =>
            obtain ⟨i, m, rfl, hi', rfl⟩ := hrel
            by_cases hlt : (i : Int) < (NA : Int)
            · obtain ⟨g1, o1, rfl, ca⟩ := RA.out i (by omega)
              go_wp2_with fail
              go_loopw [17] (fun vj wr => ∃ j n : Nat, vj = .int .i64 (j : Int) ∧ j ≤ NR ∧ wr = w8.drewN n) (fun vj _ => NR - (intOf vj).toNat)
              case atStart => exact ⟨0, m, rfl, by omega, rfl⟩
              case round =>
                obtain ⟨j, m', rfl, hj', rfl⟩ := hrel
                by_cases hlt2 : (j : Int) < (NR : Int)
                · obtain ⟨g2, o2, rfl, cb⟩ := RR.out j (by omega)
                  have ne := APT.out i j (by omega) (by omega)
                  have q9 : (again.getD i 0 == rows.getD j 0) = false := by simpa using ne
                  clear ne
                  generalize again.getD i 0 = xa at *
                  generalize rows.getD j 0 = xr at *
                  go_wp2_with fail
                  go_quiet (fail)
                  go_wp2_with fail
                  go_roundw
                  case rel => exact ⟨j + 1, _, by go_num, by omega, rfl⟩
                  case measure => simp [intOf]; omega
                · go_wp2_with fail
                  go_roundw
                  case rel => exact ⟨i + 1, m', by go_num, by omega, rfl⟩
                  case measure => simp [intOf]; omega
            · clear RA RR
              have B9 : Hid (Below w.heap.size w (w8.drewN m) ∧ (w8.drewN m).cell? ⟨w.heap.size, 0, none⟩ = some (.int .i64 A) ∧ (w8.drewN m).cell? ⟨w.heap.size, 1, none⟩ = some (.int .i64 R)) := ⟨below_drewN R8.out.2.1 _, R8.out.2.2.1, R8.out.2.2.2⟩
              have MK9 : Hid (∀ w', Below (w8.drewN m).heap.size (w8.drewN m) w' → RdP w' (.slice ka L kc) l') := fun w' hb => RdP.later (w := w8.drewN m) R8.out.1 hb
              clear R8
              go_wp2_with fail
              generalize w8.drewN m = w9 at *
              go_region_held3 (fun w' => Below w9.heap.size w9 w' ∧ w'.cell? ⟨w.heap.size, 0, none⟩ = some (.int .i64 A) ∧ w'.cell? ⟨w.heap.size, 1, none⟩ = some (.int .i64 R)) (first | assumption | exact ⟨Below.drew (Below.refl _ _), B9.out.2.1, B9.out.2.2⟩ | exact heldP hU (by assumption)) (first | (go_at_call 11; refine (CP.out _ (below_trans B9.out.1 (And.left (by assumption)))).mono ?_; rintro e w1 ⟨v1, rfl, r1, hU⟩) | (go_at_call 16; refine (MS3.out _ _ (MK9.out _ (And.left (by assumption)))).mono ?_; rintro e w1 ⟨qa, qc, rfl, hU⟩) | (go_at_call 13; refine (DL.out _ _ (by first | exact .inl r1.rd | exact .inr (MK9.out _ (And.left (by assumption))))).mono ?_; rintro e w1 ⟨rfl, hU⟩))
              have X1 : Below w9.heap.size w9 w1 ∧ w1.cell? ⟨w.heap.size, 0, none⟩ = some (.int .i64 A) ∧ w1.cell? ⟨w.heap.size, 1, none⟩ = some (.int .i64 R) := by assumption
              have B10 : Hid (Below w.heap.size w w1) := below_trans B9.out.1 X1.1
              clear X1
              go_wp2_with fail
              go_ret
              exact ⟨rfl, B10.out⟩
      · clear OD
        go_wp2_with fail
        go_quiet (fail)
        have B5 : Hid ((Below w.heap.size w (w4.drewN nq) ∧ (w4.drewN nq).cell? ⟨w.heap.size, 0, none⟩ = some (.int .i64 A) ∧ (w4.drewN nq).cell? ⟨w.heap.size, 1, none⟩ = some (.int .i64 R)) ∧ Reads (w4.drewN nq) (.slice ma NR mc) rows) := ⟨⟨below_drewN B4.out.1 _, B4.out.2.1, B4.out.2.2⟩, RM4.out⟩
        clear B4 RM4
        generalize w4.drewN nq = w5 at *
        go_wp2_with fail
        refine (CP.out _ B5.out.1.1).mono ?_
        rintro e w6 ⟨v6, rfl, r6, b6⟩
        have R6 : Hid (RdP w6 v6 l ∧ Reads w6 (.slice ma NR mc) rows ∧ (Below w.heap.size w w6 ∧ w6.cell? ⟨w.heap.size, 0, none⟩ = some (.int .i64 A) ∧ w6.cell? ⟨w.heap.size, 1, none⟩ = some (.int .i64 R))) := ⟨r6.rd, B5.out.2.later b6, heldP b6 B5.out.1⟩
        clear r6 b6 B5
        go_wp2_with fail
        refine (MRK.out _ _ _ R6.out.1 R6.out.2.1).mono ?_
        rintro e w7 ⟨ka, kc, rfl, r7, b7⟩
        have R7 : Hid (RdP w7 (.slice ka L kc) l' ∧ Reads w7 (.slice ma NR mc) rows ∧ (Below w.heap.size w w7 ∧ w7.cell? ⟨w.heap.size, 0, none⟩ = some (.int .i64 A) ∧ w7.cell? ⟨w.heap.size, 1, none⟩ = some (.int .i64 R))) := ⟨r7.rd, R6.out.2.1.later b7, heldP b7 R6.out.2.2⟩
        clear r7 b7 R6 MRK
        have p0 := R7.out.2.2.2.1
        have p1 := R7.out.2.2.2.2
        go_wp2_with fail
        refine (MS2.out _ _ R7.out.1).mono ?_
        rintro e w8 ⟨aa, ac, rfl, r8, b8⟩
        have R8 : Hid (RdP w8 (.slice ka L kc) l' ∧ (Below w.heap.size w w8 ∧ w8.cell? ⟨w.heap.size, 0, none⟩ = some (.int .i64 A) ∧ w8.cell? ⟨w.heap.size, 1, none⟩ = some (.int .i64 R))) := ⟨R7.out.1.later b8, heldP b8 R7.out.2.2⟩
        have RA : Hid (∀ i, i < NA → ∃ g o, aa = some ⟨g, o, none⟩ ∧ w8.cell? ⟨g, o + i, none⟩ = some (.int .i64 (again.getD i 0))) := fun i hi => by
          rcases r8.reads with ⟨e, _⟩ | ⟨_, g, o, c, e, _, _, hc⟩
          · have := HNA.out; rw [e] at this; simp at this; omega
          · injection e with e1 _ _; exact ⟨g, o, e1, hc i (by rw [HNA.out]; exact hi)⟩
        have RR : Hid (∀ i, i < NR → ∃ g o, ma = some ⟨g, o, none⟩ ∧ w8.cell? ⟨g, o + i, none⟩ = some (.int .i64 (rows.getD i 0))) := fun i hi => by
          rcases R7.out.2.1.later b8 with ⟨e, _⟩ | ⟨_, g, o, c, e, _, _, hc⟩
          · have := HNR.out; rw [e] at this; simp at this; omega
          · injection e with e1 _ _; exact ⟨g, o, e1, hc i (by rw [HNR.out]; exact hi)⟩
        clear r8 b8 R7 p0 p1 MS2 CE
        go_wp2_with fail
        go_loopw [16, 17] (fun vi _ wr => ∃ i n : Nat, vi = .int .i64 (i : Int) ∧ i ≤ NA ∧ wr = w8.drewN n) (fun vi _ _ => NA - (intOf vi).toNat)
        case atStart => exact ⟨0, 0, rfl, by omega, rfl⟩
        case round =>
          obtain ⟨i, m, rfl, hi', rfl⟩ := hrel
          by_cases hlt : (i : Int) < (NA : Int)
          · obtain ⟨g1, o1, rfl, ca⟩ := RA.out i (by omega)
            go_wp2_with fail
            go_loopw [17] (fun vj wr => ∃ j n : Nat, vj = .int .i64 (j : Int) ∧ j ≤ NR ∧ wr = w8.drewN n) (fun vj _ => NR - (intOf vj).toNat)
            case atStart => exact ⟨0, m, rfl, by omega, rfl⟩
            case round =>
              obtain ⟨j, m', rfl, hj', rfl⟩ := hrel
              by_cases hlt2 : (j : Int) < (NR : Int)
              · obtain ⟨g2, o2, rfl, cb⟩ := RR.out j (by omega)
                have ne := APT.out i j (by omega) (by omega)
                have q9 : (again.getD i 0 == rows.getD j 0) = false := by simpa using ne
                clear ne
                generalize again.getD i 0 = xa at *
                generalize rows.getD j 0 = xr at *
                go_wp2_with fail
                go_quiet (fail)
                go_wp2_with fail
                go_roundw
                case rel => exact ⟨j + 1, _, by go_num, by omega, rfl⟩
                case measure => simp [intOf]; omega
              · go_wp2_with fail
                go_roundw
                case rel => exact ⟨i + 1, m', by go_num, by omega, rfl⟩
                case measure => simp [intOf]; omega
          · clear RA RR
            have B9 : Hid (Below w.heap.size w (w8.drewN m) ∧ (w8.drewN m).cell? ⟨w.heap.size, 0, none⟩ = some (.int .i64 A) ∧ (w8.drewN m).cell? ⟨w.heap.size, 1, none⟩ = some (.int .i64 R)) := ⟨below_drewN R8.out.2.1 _, R8.out.2.2.1, R8.out.2.2.2⟩
            have MK9 : Hid (∀ w', Below (w8.drewN m).heap.size (w8.drewN m) w' → RdP w' (.slice ka L kc) l') := fun w' hb => RdP.later (w := w8.drewN m) R8.out.1 hb
            clear R8
            go_wp2_with fail
            generalize w8.drewN m = w9 at *
            go_region_held3 (fun w' => Below w9.heap.size w9 w' ∧ w'.cell? ⟨w.heap.size, 0, none⟩ = some (.int .i64 A) ∧ w'.cell? ⟨w.heap.size, 1, none⟩ = some (.int .i64 R)) (first | assumption | exact ⟨Below.drew (Below.refl _ _), B9.out.2.1, B9.out.2.2⟩ | exact heldP hU (by assumption)) (first | (go_at_call 11; refine (CP.out _ (below_trans B9.out.1 (And.left (by assumption)))).mono ?_; rintro e w1 ⟨v1, rfl, r1, hU⟩) | (go_at_call 16; refine (MS3.out _ _ (MK9.out _ (And.left (by assumption)))).mono ?_; rintro e w1 ⟨qa, qc, rfl, hU⟩) | (go_at_call 13; refine (DL.out _ _ (by first | exact .inl r1.rd | exact .inr (MK9.out _ (And.left (by assumption))))).mono ?_; rintro e w1 ⟨rfl, hU⟩))
            have X1 : Below w9.heap.size w9 w1 ∧ w1.cell? ⟨w.heap.size, 0, none⟩ = some (.int .i64 A) ∧ w1.cell? ⟨w.heap.size, 1, none⟩ = some (.int .i64 R) := by assumption
            have B10 : Hid (Below w.heap.size w w1) := below_trans B9.out.1 X1.1
            clear X1
            go_wp2_with fail
            go_ret
            exact ⟨rfl, B10.out⟩
    · have e1 : oldK n L = 0 := by simp [oldK]; omega
      have e2 : oldB n L = false := by simp [oldB]; omega
      rw [e1, e2]
      clear e1 e2 OLD
      go_wp2_with fail
      go_quiet (fail)
      have B5 : Hid ((Below w.heap.size w (w4.drewN nq) ∧ (w4.drewN nq).cell? ⟨w.heap.size, 0, none⟩ = some (.int .i64 A) ∧ (w4.drewN nq).cell? ⟨w.heap.size, 1, none⟩ = some (.int .i64 R)) ∧ Reads (w4.drewN nq) (.slice ma NR mc) rows) := ⟨⟨below_drewN B4.out.1 _, B4.out.2.1, B4.out.2.2⟩, RM4.out⟩
      clear B4 RM4
      generalize w4.drewN nq = w5 at *
      go_wp2_with fail
      refine (CP.out _ B5.out.1.1).mono ?_
      rintro e w6 ⟨v6, rfl, r6, b6⟩
      have R6 : Hid (RdP w6 v6 l ∧ Reads w6 (.slice ma NR mc) rows ∧ (Below w.heap.size w w6 ∧ w6.cell? ⟨w.heap.size, 0, none⟩ = some (.int .i64 A) ∧ w6.cell? ⟨w.heap.size, 1, none⟩ = some (.int .i64 R))) := ⟨r6.rd, B5.out.2.later b6, heldP b6 B5.out.1⟩
      clear r6 b6 B5
      go_wp2_with fail
      refine (MRK.out _ _ _ R6.out.1 R6.out.2.1).mono ?_
      rintro e w7 ⟨ka, kc, rfl, r7, b7⟩
      have R7 : Hid (RdP w7 (.slice ka L kc) l' ∧ Reads w7 (.slice ma NR mc) rows ∧ (Below w.heap.size w w7 ∧ w7.cell? ⟨w.heap.size, 0, none⟩ = some (.int .i64 A) ∧ w7.cell? ⟨w.heap.size, 1, none⟩ = some (.int .i64 R))) := ⟨r7.rd, R6.out.2.1.later b7, heldP b7 R6.out.2.2⟩
      clear r7 b7 R6 MRK
      have p0 := R7.out.2.2.2.1
      have p1 := R7.out.2.2.2.2
      go_wp2_with fail
      refine (MS2.out _ _ R7.out.1).mono ?_
      rintro e w8 ⟨aa, ac, rfl, r8, b8⟩
      have R8 : Hid (RdP w8 (.slice ka L kc) l' ∧ (Below w.heap.size w w8 ∧ w8.cell? ⟨w.heap.size, 0, none⟩ = some (.int .i64 A) ∧ w8.cell? ⟨w.heap.size, 1, none⟩ = some (.int .i64 R))) := ⟨R7.out.1.later b8, heldP b8 R7.out.2.2⟩
      have RA : Hid (∀ i, i < NA → ∃ g o, aa = some ⟨g, o, none⟩ ∧ w8.cell? ⟨g, o + i, none⟩ = some (.int .i64 (again.getD i 0))) := fun i hi => by
        rcases r8.reads with ⟨e, _⟩ | ⟨_, g, o, c, e, _, _, hc⟩
        · have := HNA.out; rw [e] at this; simp at this; omega
        · injection e with e1 _ _; exact ⟨g, o, e1, hc i (by rw [HNA.out]; exact hi)⟩
      have RR : Hid (∀ i, i < NR → ∃ g o, ma = some ⟨g, o, none⟩ ∧ w8.cell? ⟨g, o + i, none⟩ = some (.int .i64 (rows.getD i 0))) := fun i hi => by
        rcases R7.out.2.1.later b8 with ⟨e, _⟩ | ⟨_, g, o, c, e, _, _, hc⟩
        · have := HNR.out; rw [e] at this; simp at this; omega
        · injection e with e1 _ _; exact ⟨g, o, e1, hc i (by rw [HNR.out]; exact hi)⟩
      clear r8 b8 R7 p0 p1 MS2 CE
      go_wp2_with fail
      go_loopw [16, 17] (fun vi _ wr => ∃ i n : Nat, vi = .int .i64 (i : Int) ∧ i ≤ NA ∧ wr = w8.drewN n) (fun vi _ _ => NA - (intOf vi).toNat)
      case atStart => exact ⟨0, 0, rfl, by omega, rfl⟩
      case round =>
        obtain ⟨i, m, rfl, hi', rfl⟩ := hrel
        by_cases hlt : (i : Int) < (NA : Int)
        · obtain ⟨g1, o1, rfl, ca⟩ := RA.out i (by omega)
          go_wp2_with fail
          go_loopw [17] (fun vj wr => ∃ j n : Nat, vj = .int .i64 (j : Int) ∧ j ≤ NR ∧ wr = w8.drewN n) (fun vj _ => NR - (intOf vj).toNat)
          case atStart => exact ⟨0, m, rfl, by omega, rfl⟩
          case round =>
            obtain ⟨j, m', rfl, hj', rfl⟩ := hrel
            by_cases hlt2 : (j : Int) < (NR : Int)
            · obtain ⟨g2, o2, rfl, cb⟩ := RR.out j (by omega)
              have ne := APT.out i j (by omega) (by omega)
              have q9 : (again.getD i 0 == rows.getD j 0) = false := by simpa using ne
              clear ne
              generalize again.getD i 0 = xa at *
              generalize rows.getD j 0 = xr at *
              go_wp2_with fail
              go_quiet (fail)
              go_wp2_with fail
              go_roundw
              case rel => exact ⟨j + 1, _, by go_num, by omega, rfl⟩
              case measure => simp [intOf]; omega
            · go_wp2_with fail
              go_roundw
              case rel => exact ⟨i + 1, m', by go_num, by omega, rfl⟩
              case measure => simp [intOf]; omega
        · clear RA RR
          have B9 : Hid (Below w.heap.size w (w8.drewN m) ∧ (w8.drewN m).cell? ⟨w.heap.size, 0, none⟩ = some (.int .i64 A) ∧ (w8.drewN m).cell? ⟨w.heap.size, 1, none⟩ = some (.int .i64 R)) := ⟨below_drewN R8.out.2.1 _, R8.out.2.2.1, R8.out.2.2.2⟩
          have MK9 : Hid (∀ w', Below (w8.drewN m).heap.size (w8.drewN m) w' → RdP w' (.slice ka L kc) l') := fun w' hb => RdP.later (w := w8.drewN m) R8.out.1 hb
          clear R8
          go_wp2_with fail
          generalize w8.drewN m = w9 at *
          go_region_held3 (fun w' => Below w9.heap.size w9 w' ∧ w'.cell? ⟨w.heap.size, 0, none⟩ = some (.int .i64 A) ∧ w'.cell? ⟨w.heap.size, 1, none⟩ = some (.int .i64 R)) (first | assumption | exact ⟨Below.drew (Below.refl _ _), B9.out.2.1, B9.out.2.2⟩ | exact heldP hU (by assumption)) (first | (go_at_call 11; refine (CP.out _ (below_trans B9.out.1 (And.left (by assumption)))).mono ?_; rintro e w1 ⟨v1, rfl, r1, hU⟩) | (go_at_call 16; refine (MS3.out _ _ (MK9.out _ (And.left (by assumption)))).mono ?_; rintro e w1 ⟨qa, qc, rfl, hU⟩) | (go_at_call 13; refine (DL.out _ _ (by first | exact .inl r1.rd | exact .inr (MK9.out _ (And.left (by assumption))))).mono ?_; rintro e w1 ⟨rfl, hU⟩))
          have X1 : Below w9.heap.size w9 w1 ∧ w1.cell? ⟨w.heap.size, 0, none⟩ = some (.int .i64 A) ∧ w1.cell? ⟨w.heap.size, 1, none⟩ = some (.int .i64 R) := by assumption
          have B10 : Hid (Below w.heap.size w w1) := below_trans B9.out.1 X1.1
          clear X1
          go_wp2_with fail
          go_ret
          exact ⟨rfl, B10.out⟩
end Go.Proofs.Ytekejcpgoijoaaa
