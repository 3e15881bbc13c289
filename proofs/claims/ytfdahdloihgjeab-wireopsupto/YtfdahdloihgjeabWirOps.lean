/-
  Ours: the law WireOps walked.
-/
import Derived.Test.YtfdahdloihgjeabWirOutOp
import Derived.Test.YtfdahdloihgjeabWirRDec
import Derived.Deep.RegionWith
import Derived.Deep.CutRange
namespace Go.Proofs.Ytfdahdloihgjeab
open Go.RowKit

theorem RowV.pre {e : TypeId} {base : Nat} {w : World} {v : Value} {xs ys : List Value} (h : RowV e base w v (xs ++ ys)) (hy : 0 < ys.length) :
    ∃ g cap, v = .slice (some ⟨g, 0, none⟩) (xs.length + ys.length) cap ∧ xs.length + ys.length ≤ cap ∧ ∀ w', Below w.heap.size w w' → Rd w' (.slice (some ⟨g, 0, none⟩) xs.length cap) xs := by
  obtain ⟨ao, cap, e1, h1, h2, h3⟩ := h.rd
  obtain ⟨g, cap', e2, _, _, _⟩ := h.own (by simp; omega)
  rw [e1] at e2
  cases e2
  refine ⟨g, cap, by rw [e1, List.length_append], by rw [List.length_append] at h1; omega, fun w' hb => ⟨_, cap, rfl, by rw [List.length_append] at h1; omega, (fun h => by cases h), fun i hi => ?_⟩⟩
  obtain ⟨g', o', e3, lt, hc⟩ := h3 i (by simp; omega)
  cases e3
  refine ⟨g, 0, rfl, Nat.lt_of_lt_of_le lt hb.size, ?_⟩
  rw [hb.cell (p := ⟨g, 0 + i, none⟩) lt, hc, List.getElem_append_left hi]

/-- Rows of the same bytes, made one behind the other, and a block that stays. -/
structure TV (w0 : World) (X : Nat) (cs : List Value) (L : List Nat) (vs : List Value) (w : World) : Prop where
  bel : Below w0.heap.size w0 w
  blk : Blk X 23 cs w
  rows : ∀ v ∈ vs, RowB 5 w0.heap.size w v L
  apart : vs.Pairwise fun a b => ∀ g, b.ownBlock = some g → a.ownBlock ≠ some g
theorem TV.drewN {w0 : World} {X : Nat} {cs : List Value} {L : List Nat} {vs : List Value} {w : World} (h : TV w0 X cs L vs w) (n : Nat) : TV w0 X cs L vs (w.drewN n) := ⟨below_drewN h.bel n, h.blk, h.rows, h.apart⟩
theorem TV.next {w0 : World} {X : Nat} {cs : List Value} {L : List Nat} {vs : List Value} {w w' : World} {v : Value} (h : TV w0 X cs L vs w) (hr : RowB 5 w.heap.size w' v L) (hb : Below w.heap.size w w') : TV w0 X cs L (vs ++ [v]) w' := by
  refine ⟨below_trans h.bel hb, h.blk.below hb, fun u hu => ?_, ?_⟩
  · rcases List.mem_append.1 hu with h1 | h1
    · exact RowV.later (h.rows u h1) hb
    · simp at h1; subst h1; exact RowV.mono hr h.bel.size
  · rw [List.pairwise_append]
    refine ⟨h.apart, by simp, fun a ha b hb' g h1 h2 => ?_⟩
    simp at hb'; subst hb'
    have := RowV.block_lt (h.rows a ha) h2
    have := RowV.block_ge hr h1
    omega

set_option maxRecDepth 20000 in
set_option maxHeartbeats 4000000 in
theorem wireOps_any (o : OpV) (ok : o.Ok) (bs : List Nat) (v : Value) (w : World) (hb : ∀ c ∈ bs, c < 256) (hl : bs.length ≤ 1048576) (h : RdB w v bs) :
    Calls Try.prog 3 #[opV o, v] w fun e w' => e = .returned (.bool true) ∧ Below w.heap.size w w' := by
  obtain ⟨ao, cap, ev, -, -⟩ := h.len
  obtain ⟨L, hL⟩ : ∃ L, bs.length = L := ⟨_, rfl⟩
  rw [List.length_map, hL] at ev
  subst ev
  have HL : Hid (bs.length = L) := hL
  have hl' : L ≤ 1048576 := by omega
  have tl : Hid ((opL o).length ≤ 140737488351232) := by
    show _ ≤ _
    have t1 := ok.text
    have t2 := putT_len o.text t1
    have a0 := putI_len o.kind ok.kind
    have a1 := putI_len o.loan ok.loan
    have a2 := putI_len o.amount ok.amount
    have a3 := putI_len o.rate ok.rate
    have a4 := putI_len o.count ok.count
    have a5 := putI_len o.days ok.days
    unfold opL
    split
    · unfold opM
      simp only [List.length_append]
      have z : ∀ (c : Prop) [Decidable c] (l : List Nat), (if c then l else []).length ≤ l.length := fun c _ l => by split <;> simp
      rename_i m _
      have b1 := z (m % 2 = 1) (putI o.loan)
      have b2 := z (m / 2 % 2 = 1) (putI o.amount)
      have b3 := z (m / 4 % 2 = 1) (putI o.rate)
      have b4 := z (m / 8 % 2 = 1) (putI o.count)
      have b5 := z (m / 16 % 2 = 1) (putI o.days)
      have b6 := z (m / 32 % 2 = 1) (putT (sB o.text))
      omega
    · simp
  have E1 : Hid (∀ w X cs vs w', TV w X cs (opL o) vs w' → Calls Try.prog 9 #[opV o] w' fun e w'' => ∃ v, e = .returned v ∧ TV w X cs (opL o) (vs ++ [v]) w'') := fun w X cs vs w' h => by
    refine (encodeOp_at o ok w').mono ?_
    rintro e w2 ⟨v, rfl, r, b⟩
    exact ⟨v, rfl, h.next r b⟩
  have E2 : Hid (∀ w X cs vs w', TV w X cs (opL o) vs w' → Calls Try.prog 10 #[opV o] w' fun e w'' => ∃ v, e = .returned v ∧ TV w X cs (opL o) (vs ++ [v]) w'') := fun w X cs vs w' h => by
    refine (rencodeOp_at o ok w').mono ?_
    rintro e w2 ⟨v, rfl, r, b⟩
    exact ⟨v, rfl, h.next r b⟩
  have TD : Hid (∀ w X cs w' p q c, TV w X cs (opL o) [p, q, c] w' → Calls Try.prog 8 #[p, q, c] w' fun e w'' => e = .returned (.bool true) ∧ Below w.heap.size w w'') := fun w X cs w' p q c h => by
    have rp := h.rows p (by simp)
    have ap := h.apart
    simp only [List.pairwise_cons, List.mem_cons, List.not_mem_nil, or_false, forall_eq_or_imp, forall_eq] at ap
    refine (told_at (opL o) w.heap.size p q c w' tl.out rp (RowV.rd (h.rows q (by simp))) (RowV.rd (h.rows c (by simp))) ap.1.1 ap.1.2).mono ?_
    rintro e w2 ⟨rfl, g⟩
    exact ⟨rfl, below_grown h.bel rp (Nat.le_refl _) h.bel.size g⟩
  have RV : Hid (∀ w', Below w.heap.size w w' → RdB w' (.slice ao L cap) bs) := fun w' hb => Rd.later h hb
  have RM : Hid (∀ w' v, RdB w' v bs → Calls Try.prog 11 #[v] w' (NewB w' (roomL bs))) := fun w' v h => roomy_at bs v w' (by omega) h
  have DP : Hid (∀ w' v, RdB w' v bs → Calls Try.prog 12 #[v] w' fun e w'' => e = .returned (.tuple #[opV (decO bs).1, .bool (decO bs).2]) ∧ Below w'.heap.size w' w'') := fun w' v h => decodeOp_at bs hb (by omega) v w' h
  have DR : Hid (∀ w' v, RdB w' v bs → Calls Try.prog 13 #[v] w' fun e w'' => e = .returned (.tuple #[opV (decO bs).1, .bool (decO bs).2]) ∧ Below w'.heap.size w' w'') := fun w' v h => rdecodeOp_at bs hb (by omega) v w' h
  have ST : Hid (∀ w' f v, RdB w' f (roomL bs) → RdB w' v bs → Calls Try.prog 14 #[f, v] w' fun e w'' => e = .returned (.bool true) ∧ Below w'.heap.size w' w'') := fun w' f v h1 h2 => still_at bs f v w' (by omega) h1 h2
  generalize (decO bs).2 = kk at *
  generalize (decO bs).1 = dd at *
  obtain ⟨f0, f1, f2, f3, f4, f5, f6⟩ := o
  obtain ⟨g0, g1, g2, g3, g4, g5, g6⟩ := dd
  unfold opV at *
  simp only at *
  generalize opL ⟨f0, f1, f2, f3, f4, f5, f6⟩ = T at *
  have BA := below_alloc w (.cells #[.int .i64 f0, .int .i64 f1, .int .i64 f2, .int .i64 f3, .int .i64 f4, .int .i64 f5, .string f6] 23)
  have tv : TV w w.heap.size [.int .i64 f0, .int .i64 f1, .int .i64 f2, .int .i64 f3, .int .i64 f4, .int .i64 f5, .string f6] T [] (w.alloc (.cells #[.int .i64 f0, .int .i64 f1, .int .i64 f2, .int .i64 f3, .int .i64 f4, .int .i64 f5, .string f6] 23)) := ⟨BA, Blk.new 23 [.int .i64 f0, .int .i64 f1, .int .i64 f2, .int .i64 f3, .int .i64 f4, .int .i64 f5, .string f6] w, by simp, List.Pairwise.nil⟩
  clear h hb hl hL ok tl BA
  go_enter Try.func3, Try.ntmps3
  go_wp2_with fail
  obtain ⟨X, hXe⟩ : ∃ X, w.heap.size = X := ⟨_, rfl⟩
  rw [hXe] at tv ⊢
  generalize w.alloc (.cells #[.int .i64 f0, .int .i64 f1, .int .i64 f2, .int .i64 f3, .int .i64 f4, .int .i64 f5, .string f6] 23) = W0 at *
  have cx0 := tv.blk.cell 0 _ rfl
  have cx1 := tv.blk.cell 1 _ rfl
  have cx2 := tv.blk.cell 2 _ rfl
  have cx3 := tv.blk.cell 3 _ rfl
  have cx4 := tv.blk.cell 4 _ rfl
  have cx5 := tv.blk.cell 5 _ rfl
  have cx6 := tv.blk.cell 6 _ rfl
  go_cut [18] from 11 to 18 (fun x wx => x = .bool false ∧ Below w.heap.size w wx)
  case first =>
    go_region_with (first | (go_at_call 9; refine (E1.out w X _ _ _ (by first | exact tv | exact TV.drewN tv _)).mono ?_; rintro e wn ⟨vn, rfl, tn⟩; clear tv; have tv := tn; clear tn; have cx0 := tv.blk.cell 0 _ rfl; have cx1 := tv.blk.cell 1 _ rfl; have cx2 := tv.blk.cell 2 _ rfl; have cx3 := tv.blk.cell 3 _ rfl; have cx4 := tv.blk.cell 4 _ rfl; have cx5 := tv.blk.cell 5 _ rfl; have cx6 := tv.blk.cell 6 _ rfl) | (go_at_call 10; refine (E2.out w X _ _ _ (by first | exact tv | exact TV.drewN tv _)).mono ?_; rintro e wn ⟨vn, rfl, tn⟩; clear tv; have tv := tn; clear tn; have cx0 := tv.blk.cell 0 _ rfl; have cx1 := tv.blk.cell 1 _ rfl; have cx2 := tv.blk.cell 2 _ rfl; have cx3 := tv.blk.cell 3 _ rfl; have cx4 := tv.blk.cell 4 _ rfl; have cx5 := tv.blk.cell 5 _ rfl; have cx6 := tv.blk.cell 6 _ rfl) | (go_at_call 8; refine (TD.out w X _ _ _ _ _ (by first | exact tv | exact TV.drewN tv _)).mono ?_; rintro e w4 ⟨rfl, B4⟩; clear tv))
    all_goals
      go_wp2_with fail
      go_meet
      exact ⟨rfl, B4⟩
  case rest =>
    obtain ⟨rfl, B4⟩ := hcut
    clear tv cx0 cx1 cx2 cx3 cx4 cx5 cx6 E1 E2 TD
    go_wp2_with fail
    refine (RM.out _ _ (RV.out _ B4)).mono ?_
    rintro e w5 ⟨v5, rfl, r5, b5⟩
    obtain ⟨g, c5, rfl, hc5, R5⟩ := RowV.pre (xs := bs.map bv) (ys := [90, 91, 92, 93].map bv) (by simpa [RowB, roomL] using r5) (by decide)
    rw [List.length_map, HL.out] at hc5 R5 ⊢
    have F5 : Hid (∀ w', Below w5.heap.size w5 w' → RdB w' (.slice (some ⟨g, 0, none⟩) (L + 4) c5) (roomL bs)) := fun w' hb => by
      have := Rd.later (RowV.rd r5) hb
      rw [List.length_map, HL.out] at this
      exact this
    have G5 : Hid (∀ w', Below w5.heap.size w5 w' → RdB w' (.slice (some ⟨g, 0, none⟩) L c5) bs) := R5
    have B5 : Below w.heap.size w w5 := below_trans B4 b5
    have hc5' : L + 4 ≤ c5 := by simpa using hc5
    clear r5 b5 B4 R5 hc5
    have Z5 : Hid (Below w5.heap.size w5 w5) := Below.refl _ _
    go_wp2_with fail
    refine (DP.out _ _ (G5.out _ Z5.out)).mono ?_
    rintro e w6 ⟨rfl, b6⟩
    have BA6 := below_alloc w6 (.cells #[.int .i64 g0, .int .i64 g1, .int .i64 g2, .int .i64 g3, .int .i64 g4, .int .i64 g5, .string g6] 23)
    have BP6 := Blk.new 23 [.int .i64 g0, .int .i64 g1, .int .i64 g2, .int .i64 g3, .int .i64 g4, .int .i64 g5, .string g6] w6
    have B7 := below_trans (below_trans B5 b6) BA6
    have b7 := below_trans b6 BA6
    clear B5 b6 BA6
    go_wp2_with fail
    obtain ⟨G, hGe⟩ : ∃ G, w6.heap.size = G := ⟨_, rfl⟩
    rw [hGe] at BP6 ⊢
    have BP7 : Blk G 23 [.int .i64 g0, .int .i64 g1, .int .i64 g2, .int .i64 g3, .int .i64 g4, .int .i64 g5, .string g6] (w6.alloc (.cells #[.int .i64 g0, .int .i64 g1, .int .i64 g2, .int .i64 g3, .int .i64 g4, .int .i64 g5, .string g6] 23)) := BP6
    clear BP6
    generalize w6.alloc (.cells #[.int .i64 g0, .int .i64 g1, .int .i64 g2, .int .i64 g3, .int .i64 g4, .int .i64 g5, .string g6] 23) = W7 at *
    refine (DR.out _ _ (RV.out _ B7)).mono ?_
    rintro e w8 ⟨rfl, b8⟩
    have BP8 := BP7.below b8
    have BA8 := below_alloc w8 (.cells #[.int .i64 g0, .int .i64 g1, .int .i64 g2, .int .i64 g3, .int .i64 g4, .int .i64 g5, .string g6] 23)
    have B9 := below_trans (below_trans B7 b8) BA8
    have b9 := below_trans (below_trans b7 b8) BA8
    have ltG := BP8.lt
    clear BP7 b8 BA8 B7 b7
    have cp0 := BP8.cell 0 _ rfl
    have cp1 := BP8.cell 1 _ rfl
    have cp2 := BP8.cell 2 _ rfl
    have cp3 := BP8.cell 3 _ rfl
    have cp4 := BP8.cell 4 _ rfl
    have cp5 := BP8.cell 5 _ rfl
    have cp6 := BP8.cell 6 _ rfl
    have e2 : (kk == kk) = true := by simp
    go_wp2_with fail
    refine (ST.out _ _ _ (F5.out _ b9) (RV.out _ B9)).mono ?_
    rintro e w10 ⟨rfl, b10⟩
    go_wp2_with fail
    go_ret
    exact ⟨rfl, below_trans B9 b10⟩
end Go.Proofs.Ytfdahdloihgjeab
