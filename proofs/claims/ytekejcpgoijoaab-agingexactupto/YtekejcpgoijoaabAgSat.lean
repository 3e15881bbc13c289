/-
  Ours: aging's satisfied, Satisfied, Oldest, Days, Reach.
-/
import Derived.Test.YtekejcpgoijoaabAgGo
import Derived.Deep.RegionHeld3
import Derived.Deep.CutRange
namespace Go.Proofs.Ytekejcpgoijoaab
open Go.RowKit LedM AgM

/-- The cells of a plan that reads, at every later world. -/
theorem RdP.cells {w : World} {ao : Option Addr} {n cap : Nat} {l : List Ins} (h : RdP w (.slice ao n cap) l) : ∀ w', Below w.heap.size w w' → ∀ i, i < n → ∃ g o, ao = some ⟨g, o, none⟩ ∧ w'.rangeAt g (o + i * 4) (insL (iN l i)) := fun w' hb i hi => by
  obtain ⟨ao', cap', e, _, _, H⟩ := h.later hb
  injection e with e1 e2 e3
  subst e1 e2
  obtain ⟨g, o, e, _, r⟩ := H i hi
  exact ⟨g, o, e, r⟩

set_option maxRecDepth 20000 in
set_option maxHeartbeats 2000000 in
theorem sat_at (l : List Ins) (A R : Int) (n : Nat) (v : Value) (w : World) (hl : l.length ≤ 1000000000) (hA : i64 A) (hs : Snd l = true) (hn : SatF l A R n) (h : RdP w v l) :
    Calls Try.prog 36 #[v, .agg #[.int .i64 A, .int .i64 R]] w fun e w' => e = .returned (.int .i64 (n : Int)) ∧ Below w.heap.size w w' := by
  have h' := h
  obtain ⟨ao, cap, rfl, hcap, hno, -⟩ := h
  have CE : Hid (∀ w', Below w.heap.size w w' → ∀ i, i < l.length → ∃ g o, ao = some ⟨g, o, none⟩ ∧ w'.rangeAt g (o + i * 4) (insL (iN l i))) := h'.cells
  have PA : Hid (∀ w, Calls Try.prog 40 #[.agg #[.int .i64 A, .int .i64 R]] w fun e w' => e = .returned (.int .i64 (pd A)) ∧ Below w.heap.size w w') := fun w => paid_at A R w
  have BA : Hid (Below w.heap.size w (w.alloc (.cells #[.int .i64 A, .int .i64 R] 24))) := below_alloc w _
  have NP : Hid (Blk w.heap.size 24 [.int .i64 A, .int .i64 R] (w.alloc (.cells #[.int .i64 A, .int .i64 R] 24))) := Blk.new 24 [.int .i64 A, .int .i64 R] w
  have RW : Hid (∀ k, k < l.length → 0 ≤ (iN l k).i ∧ 0 ≤ (iN l k).p ∧ 0 ≤ bef l k ∧ bef l k + (iN l k).i + (iN l k).p ≤ 9223372036854775807 ∧ bef l (k + 1) = bef l k + (iN l k).i + (iN l k).p) := fun k hk => by
    have h1 := snd_row hs hk
    have h2 := (snd_bef hs (k := k) (by omega)).1
    have h3 := (snd_bef hs (k := k + 1) (by omega)).2
    have h4 := bef_succ hk
    omega
  obtain ⟨L, hL⟩ : ∃ L, l.length = L := ⟨_, rfl⟩
  by_cases c1 : R ≤ 0
  · obtain rfl : n = l.length := by unfold SatF at hn; rwa [if_pos (.inl c1)] at hn
    rw [hL]
    rw [hL] at hcap hl
    clear hn hs CE PA RW h'
    go_enter Try.func36, Try.ntmps36
    go_wp2_with fail
    go_ret
    exact ⟨rfl, BA.out⟩
  by_cases c2 : l.length = 0
  · obtain rfl : n = l.length := by unfold SatF at hn; rwa [if_pos (.inr c2)] at hn
    rw [c2] at hcap hl ⊢
    clear hn hs CE PA RW h'
    go_enter Try.func36, Try.ntmps36
    go_wp2_with fail
    go_ret
    exact ⟨rfl, BA.out⟩
  have hS : Sat l (pd A) n := by unfold SatF at hn; rwa [if_neg (by omega)] at hn
  have FOUND : Hid (∀ k, k < L → bef l k ≤ pd A → (k + 1 = L ∨ pd A < bef l (k + 1)) → k = n) := fun k h1 h2 h3 => Sat.uniq hs ⟨by omega, h2, by rw [hL]; exact h3⟩ hS
  have P0 : 0 ≤ pd A := pd_ge A
  have P1 := pd_le hA
  rw [hL] at hcap hl c2 CE RW ⊢
  have hc0 : ((L : Int) == 0) = false := by simpa using c2
  have hc1 : L - 1 ≤ cap := by omega
  have hcst : ((L - 1 : Nat) : Int) = (L : Int) - 1 := by omega
  clear hn hs hS h' hL
  generalize pd A = p at *
  go_enter Try.func36, Try.ntmps36
  go_wp2_with fail
  have BA2 : Hid (Below w.heap.size w (w.alloc (.cells #[.int .i64 A, .int .i64 R] 24)) ∧ Blk w.heap.size 24 [.int .i64 A, .int .i64 R] (w.alloc (.cells #[.int .i64 A, .int .i64 R] 24))) := ⟨BA.out, NP.out⟩
  clear BA NP
  generalize w.alloc (.cells #[.int .i64 A, .int .i64 R] 24) = w1 at *
  go_loopw [6, 7, 8, 26] (fun vt _ _ vk wr => ∃ k : Nat, vk = .int .i64 (k : Int) ∧ k + 1 ≤ L ∧ vt = .int .i64 (bef l k) ∧ Hid (bef l k ≤ p) ∧ Hid (Below w.heap.size w wr ∧ Blk w.heap.size 24 [.int .i64 A, .int .i64 R] wr)) (fun _ _ _ vk _ => L - (intOf vk).toNat)
  case atStart => exact ⟨0, rfl, by omega, by rw [bef_zero], by rw [bef_zero]; exact P0, BA2.out⟩
  case round =>
    obtain ⟨k, rfl, hk, rfl, LE, BB⟩ := hrel
    by_cases hlt : (k : Int) < (L : Int) - 1
    · obtain ⟨g, o, rfl, rg⟩ := CE.out wr BB.out.1 k (by omega)
      have RG : Hid (wr.rangeAt g (o + k * 4) (insL (iN l k))) := rg
      have NB : Hid (Blk wr.heap.size 32 [.int .i64 0, .int .i64 0, .int .i64 0, .bool false] (wr.alloc (.cells #[.int .i64 0, .int .i64 0, .int .i64 0, .bool false] 32))) := Blk.new 32 [.int .i64 0, .int .i64 0, .int .i64 0, .bool false] wr
      have BA : Hid (Below w.heap.size w (wr.alloc (.cells #[.int .i64 0, .int .i64 0, .int .i64 0, .bool false] 32)) ∧ w.heap.size ≤ wr.heap.size ∧ Blk w.heap.size 24 [.int .i64 A, .int .i64 R] (wr.alloc (.cells #[.int .i64 0, .int .i64 0, .int .i64 0, .bool false] 32)) ∧ w.heap.size < wr.heap.size) := ⟨BB.out.1.alloc BB.out.1.size _, BB.out.1.size, BB.out.2.old _, BB.out.2.lt⟩
      obtain ⟨r1, r2, r3, r4, r5⟩ := RW.out k (by omega)
      have R5 : Hid (bef l (k + 1) = bef l k + (iN l k).i + (iN l k).p) := r5
      have FK : Hid (p < bef l k + ((iN l k).i + (iN l k).p) → k = n) := fun h => FOUND.out k (by omega) LE.out (.inr (by rw [R5.out]; omega))
      have AM : Hid (∀ w, Calls Try.prog 39 #[.agg (insL (iN l k)).toArray] w fun e w' => e = .returned (.int .i64 ((iN l k).i + (iN l k).p)) ∧ Below w.heap.size w w') := fun w => amount_at _ w ⟨r1, r2, by omega⟩
      have r6 : 0 ≤ (iN l k).i + (iN l k).p ∧ bef l k + ((iN l k).i + (iN l k).p) ≤ 9223372036854775807 := by omega
      have R7 : Hid (bef l (k + 1) = bef l k + ((iN l k).i + (iN l k).p)) := R5.out.trans (by omega)
      obtain ⟨s, hs⟩ : ∃ s, (iN l k).i + (iN l k).p = s := ⟨_, rfl⟩
      rw [hs] at FK AM r6 R7
      obtain ⟨r6, r7⟩ := r6
      clear r1 r2 r4 r5 R5 rg RW hs BB
      generalize iN l k = x at *
      generalize bef l k = t at *
      go_wp2_with (first
        | (refine step_load rfl 32 _ rfl g (o + k * 4) rfl (insL x) _ RG.out Try.underlying32 rfl (infoI _) ?_)
        | (refine step_store rfl 32 _ _ rfl wr.heap.size 0 32 [.int .i64 0, .int .i64 0, .int .i64 0, .bool false] (insL x) rfl rfl NB.out (Nat.le_refl _) (infoI _) (oneI _) ?_; intro w2 nb2 g2; have B2 : Hid (Below w.heap.size w w2 ∧ Blk w.heap.size 24 [.int .i64 A, .int .i64 R] w2) := ⟨below_row BA.out.1 g2 BA.out.2.1, BA.out.2.2.1.grown g2 (by have := BA.out.2.2.2; simp; omega)⟩; have N2 : Hid (Blk wr.heap.size 32 (insL x) w2) := nb2; clear nb2 g2 NB BA RG)
        | (refine step_load rfl 32 _ rfl wr.heap.size 0 rfl (insL x) _ N2.out.all Try.underlying32 rfl (infoI _) ?_))
      refine (AM.out _).mono ?_
      rintro e w3 ⟨rfl, b3⟩
      have B3 : Hid (Below w.heap.size w w3 ∧ Blk w.heap.size 24 [.int .i64 A, .int .i64 R] w3) := ⟨below_trans B2.out.1 b3, B2.out.2.below b3⟩
      clear b3 B2 N2
      have p0 := B3.out.2.cell 0 _ rfl
      have p1 := B3.out.2.cell 1 _ rfl
      go_wp2_with fail
      refine (PA.out _).mono ?_
      rintro e w4 ⟨rfl, b4⟩
      have B4 : Hid (Below w.heap.size w w4 ∧ Blk w.heap.size 24 [.int .i64 A, .int .i64 R] w4) := ⟨below_trans B3.out.1 b4, B3.out.2.below b4⟩
      clear b4 B3 p0 p1
      by_cases hq : p < t + s
      · obtain rfl := FK.out hq
        go_wp2_with fail
        go_ret
        exact ⟨rfl, B4.out.1⟩
      · have LE2 : Hid (bef l (k + 1) ≤ p) := by show _ ≤ _; rw [R7.out]; omega
        go_wp2_with fail
        go_roundw
        case rel => exact ⟨k + 1, by go_num, by omega, by rw [R7.out], LE2.out, B4.out⟩
        case measure => simp [intOf]; omega
    · have ek : k + 1 = L := by omega
      obtain rfl := FOUND.out k (by omega) LE.out (.inl ek)
      have e1 : (L : Int) - 1 = (k : Int) := by omega
      have E1 : Hid ((L : Int) - 1 = (k : Int)) := e1
      clear e1 ek
      go_wp2_with fail
      go_ret
      exact ⟨by rw [← E1.out]; rfl, BB.out.1⟩
/-- Of any plan. -/
theorem rd_none (w : World) : RdP w (.slice none 0 0) [] := ⟨none, 0, rfl, Nat.le_refl _, fun _ => rfl, fun i hi => by simp at hi⟩
theorem rd_sP {w : World} {v : Value} {l : List Ins} (h : RdP w v l) : RdP w (if Snd l then v else .slice none 0 0) (sP l) := by
  unfold sP; cases Snd l
  · exact rd_none w
  · exact h

/-- A position's block. -/
abbrev posA (A R : Int) : Value := .agg #[.int .i64 A, .int .i64 R]
theorem infoPos (A R : Int) : (Try.prog.info? 24).map (·.size) = some [Value.int .i64 A, .int .i64 R].length := by show _ = some 2; kernel_rfl

/-- A position's cells, and what lay there, behind a call. -/
theorem heldP {W w1 w2 : World} {Q : Nat} {A R : Int} (b : Below w1.heap.size w1 w2) (h : Below W.heap.size W w1 ∧ w1.cell? ⟨Q, 0, none⟩ = some (.int .i64 A) ∧ w1.cell? ⟨Q, 1, none⟩ = some (.int .i64 R)) :
    Below W.heap.size W w2 ∧ w2.cell? ⟨Q, 0, none⟩ = some (.int .i64 A) ∧ w2.cell? ⟨Q, 1, none⟩ = some (.int .i64 R) :=
  ⟨below_trans h.1 b, (b.cell (p := ⟨Q, 0, none⟩) (World.block_lt_of_cell? _ _ h.2.1)).trans h.2.1, (b.cell (p := ⟨Q, 1, none⟩) (World.block_lt_of_cell? _ _ h.2.2)).trans h.2.2⟩

set_option maxRecDepth 20000 in
set_option maxHeartbeats 2000000 in
theorem satisfied_at (l : List Ins) (A R : Int) (n : Nat) (v : Value) (w : World) (hl : l.length ≤ 1000000000) (ok : ∀ x ∈ l, InsOk x) (hA : i64 A) (hn : SatF (sP l) A R n) (h : RdP w v l) :
    Calls Try.prog 28 #[v, .agg #[.int .i64 A, .int .i64 R]] w fun e w' => e = .returned (.int .i64 (n : Int)) ∧ Below w.heap.size w w' := by
  have BA : Hid (Below w.heap.size w (w.alloc (.cells #[.int .i64 A, .int .i64 R] 24))) := below_alloc w _
  have NP : Hid (Blk w.heap.size 24 [.int .i64 A, .int .i64 R] (w.alloc (.cells #[.int .i64 A, .int .i64 R] 24))) := Blk.new 24 [.int .i64 A, .int .i64 R] w
  have SO : Hid (∀ w', Below w.heap.size w w' → Calls Try.prog 35 #[v] w' fun e w2 => e = .returned (if Snd l then v else .slice none 0 0) ∧ Below w'.heap.size w' w2) := fun w' hb => sound_at l v w' hl ok (h.later hb)
  have ST : Hid (∀ w', Below w.heap.size w w' → Calls Try.prog 36 #[if Snd l then v else .slice none 0 0, .agg #[.int .i64 A, .int .i64 R]] w' fun e w2 => e = .returned (.int .i64 (n : Int)) ∧ Below w'.heap.size w' w2) := fun w' hb => sat_at (sP l) A R n _ w' (Nat.le_trans (sP_len l) hl) hA (sP_snd l) hn (rd_sP (h.later hb))
  obtain ⟨V, hV⟩ : ∃ V, (if Snd l then v else .slice none 0 0) = V := ⟨_, rfl⟩
  rw [hV] at SO ST
  clear hV hn h
  go_enter Try.func28, Try.ntmps28
  go_wp2_with fail
  have BC : Hid (Below w.heap.size w (w.alloc (.cells #[.int .i64 A, .int .i64 R] 24)) ∧ (w.alloc (.cells #[.int .i64 A, .int .i64 R] 24)).cell? ⟨w.heap.size, 0, none⟩ = some (.int .i64 A) ∧ (w.alloc (.cells #[.int .i64 A, .int .i64 R] 24)).cell? ⟨w.heap.size, 1, none⟩ = some (.int .i64 R)) := ⟨BA.out, NP.out.cell 0 _ rfl, NP.out.cell 1 _ rfl⟩
  clear BA NP
  generalize w.alloc (.cells #[.int .i64 A, .int .i64 R] 24) = w1 at *
  go_region_held3 (fun w' => Below w.heap.size w w' ∧ w'.cell? ⟨w.heap.size, 0, none⟩ = some (.int .i64 A) ∧ w'.cell? ⟨w.heap.size, 1, none⟩ = some (.int .i64 R)) (first | exact ⟨Below.drew BC.out.1, BC.out.2.1, BC.out.2.2⟩ | exact heldP hU (by assumption)) (first | (go_at_call 35; refine (SO.out _ (And.left (by assumption))).mono ?_; rintro e w1 ⟨rfl, hU⟩) | (go_at_call 36; refine (ST.out _ (And.left (by assumption))).mono ?_; rintro e w1 ⟨rfl, hU⟩))
  go_wp2_with fail
  go_ret
  exact ⟨rfl, And.left (by assumption)⟩
end Go.Proofs.Ytekejcpgoijoaab
