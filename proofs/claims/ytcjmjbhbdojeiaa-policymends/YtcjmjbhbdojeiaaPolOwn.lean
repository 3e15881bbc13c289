/-
  Ours: the statements' own.
-/
import Derived.Test.YtcjmjbhbdojeiaaPolLaw
import Derived.Deep.CutRange
namespace Go.Proofs.Ytcjmjbhbdojeiaa
open Go.RowKit LedM PolM

def polZ : List Value := polL [0, 0, 0, 0, 0, 0, 0, 0, 0, 0, 0, 0, 0, 0, 0, 0, 0] (.slice none 0 0)
theorem polL_one {l : List Int} {a : Option Addr} {n c : Nat} : ∀ v ∈ polL l (.slice a n c), v.oneCell' = true := fun v hv => by
  rcases List.mem_append.1 hv with h | h
  · exact bkL_one l v h
  · simp at h; subst h; rfl
theorem polL_set {l : List Int} {s t : Value} (hl : l.length = 17) : (polL l s).set 17 t = polL l t := by
  rw [polL, List.set_append_right _ _ (by rw [bkL_len]; omega), bkL_len, hl]; rfl
theorem blk_put {G T : Nat} {Z RL : List Value} {w : World} (hZ : Z.length ≤ 0 + RL.length) (h : Blk G T (Z.take 0 ++ RL ++ Z.drop (0 + RL.length)) w) : Blk G T RL w := by
  rw [List.take_zero, List.nil_append, List.drop_of_length_le hZ, List.append_nil] at h; exact h
theorem rowV_some {e : TypeId} {base : Nat} {w : World} {v : Value} {vs : List Value} (h : RowV e base w v vs) (h0 : 0 < vs.length) : ∃ g cap, v = .slice (some ⟨g, 0, none⟩) vs.length cap ∧ vs.length ≤ cap ∧ base ≤ g ∧ g < w.heap.size := by
  have h1 := fun g hg => h.block_ge (g := g) hg
  have h2 := fun g hg => h.block_lt (g := g) hg
  rcases h.2 with ⟨_, hn⟩ | ⟨g, cap, cur, rfl, hb, hg, hn, hm, hs, ht⟩
  · omega
  · exact ⟨g, cap, rfl, hn, hb, (Array.getElem?_eq_some_iff.1 hg).1⟩
theorem rd_front {w : World} {g cap : Nat} {xs ys : List Int} (h : Rd w (.slice (some ⟨g, 0, none⟩) (xs.length + ys.length) cap) (bkL (xs ++ ys))) : Rd w (.slice (some ⟨g, 0, none⟩) xs.length cap) (bkL xs) := by
  obtain ⟨ao, c, e, hc, _, H⟩ := h
  injection e with e1 e2 e3
  subst e1 e3
  rw [bkL_len, List.length_append] at hc
  refine ⟨_, _, by rw [bkL_len], by rw [bkL_len]; omega, (fun h => by cases h), fun i hi => ?_⟩
  rw [bkL_len] at hi
  obtain ⟨g', o', e', lt, hcell⟩ := H i (by rw [bkL_len, List.length_append]; omega)
  refine ⟨g', o', e', lt, ?_⟩
  rw [hcell]
  simp [bkL, hi]

set_option maxRecDepth 20000 in
set_option maxHeartbeats 4000000 in
theorem own_at (l hs : List Int) (s : Value) (w : World) (hl : l.length = 17) (hr : Rd w s (bkL hs)) (hb : hs.length ≤ 1000000) :
    Calls Try.prog 14 #[PV l s] w fun e w' => ∃ g cap, e = .returned (.tuple #[PV l (.slice (some ⟨g, 0, none⟩) hs.length cap), .slice (some ⟨g, 0, none⟩) (hs.length + 3) cap]) ∧ RowV 3 w.heap.size w' (.slice (some ⟨g, 0, none⟩) (hs.length + 3) cap) (bkL (hs ++ [-7, -8, -9])) ∧ Below w.heap.size w w' := by
  have CO : Hid (∀ w', Below w.heap.size w w' → Calls Try.prog 17 #[s] w' fun e w'' => ∃ v, e = .returned v ∧ RowV 3 w'.heap.size w'' v (bkL (hs ++ [-7, -8, -9])) ∧ Below w'.heap.size w' w'') := fun w' hb' => copied_at hs s w' (hr.later hb') hb
  show Calls _ _ #[.agg (polL l s).toArray] _ _
  obtain ⟨ao, cp, rfl, hcap, hno, -⟩ := hr
  rw [bkL_len] at hcap CO ⊢
  have SZ : Hid (∀ t : Value, (Try.prog.info? 24).map (·.size) = some (polL l t).length) := fun t => by rw [polL_len hl]; exact sizeP
  have FT : Hid (∀ t : Value, 0 + (polL l t).length ≤ polZ.length) := fun t => by rw [polL_len hl]; exact Nat.le_refl 18
  have FZ : Hid (∀ t : Value, polZ.length ≤ 0 + (polL l t).length) := fun t => by rw [polL_len hl]; exact Nat.le_refl 18
  have ST : Hid (∀ s t : Value, (polL l s).set 17 t = polL l t) := fun s t => polL_set hl
  have HO : Hid (∀ s : Value, (polL l s)[17]? = some s) := fun s => polL_hol hl
  obtain ⟨N, hN⟩ : ∃ N, hs.length = N := ⟨_, rfl⟩
  have LM : Hid ((bkL (hs ++ [-7, -8, -9])).length = N + 3) := by show _ = _; rw [bkL_len, List.length_append, hN]; rfl
  rw [hN] at hcap hb CO ⊢
  clear hN hl hno
  have W0 : Hid (Blk w.heap.size 24 (polL l (.slice ao N cp)) ((w.alloc (.cells (polL l (.slice ao N cp)).toArray 24)).alloc (.cells #[.int .i64 0, .int .i64 0, .int .i64 0, .int .i64 0, .int .i64 0, .int .i64 0, .int .i64 0, .int .i64 0, .int .i64 0, .int .i64 0, .int .i64 0, .int .i64 0, .int .i64 0, .int .i64 0, .int .i64 0, .int .i64 0, .int .i64 0, .slice none 0 0] 24))) := (Blk.new _ _ _).below (below_alloc _ _)
  have W1 : Hid (Blk (w.heap.size + 1) 24 polZ ((w.alloc (.cells (polL l (.slice ao N cp)).toArray 24)).alloc (.cells #[.int .i64 0, .int .i64 0, .int .i64 0, .int .i64 0, .int .i64 0, .int .i64 0, .int .i64 0, .int .i64 0, .int .i64 0, .int .i64 0, .int .i64 0, .int .i64 0, .int .i64 0, .int .i64 0, .int .i64 0, .int .i64 0, .int .i64 0, .slice none 0 0] 24))) := Blk.new2 _ _ _ _
  have B0 : Hid (Below w.heap.size w ((w.alloc (.cells (polL l (.slice ao N cp)).toArray 24)).alloc (.cells #[.int .i64 0, .int .i64 0, .int .i64 0, .int .i64 0, .int .i64 0, .int .i64 0, .int .i64 0, .int .i64 0, .int .i64 0, .int .i64 0, .int .i64 0, .int .i64 0, .int .i64 0, .int .i64 0, .int .i64 0, .int .i64 0, .int .i64 0, .slice none 0 0] 24))) := below_trans (below_alloc _ _) (below_alloc _ _)
  have c17 := W0.out.cell 17 _ (HO.out _)
  go_enter Try.func14, Try.ntmps14
  go_wp2_with fail
  refine (CO.out _ B0.out).mono ?_
  rintro e w1 ⟨v, rfl, rv, b1⟩
  obtain ⟨g, cap, rfl, hc3, hg0, hg1⟩ := rowV_some rv (by rw [LM.out]; omega)
  rw [LM.out] at hc3 rv
  rw [LM.out]
  have RV : Hid (RowV 3 w.heap.size w1 (.slice (some ⟨g, 0, none⟩) (N + 3) cap) (bkL (hs ++ [-7, -8, -9]))) := rv.mono B0.out.size
  have X0 : Hid (Blk w.heap.size 24 (polL l (.slice ao N cp)) w1) := W0.out.below b1
  have X1 : Hid (Blk (w.heap.size + 1) 24 polZ w1) := W1.out.below b1
  have B1 : Hid (Below w.heap.size w w1) := below_trans B0.out b1
  have GN : Hid (w.heap.size + 2 ≤ g ∧ g < w1.heap.size ∧ w.heap.size + 2 ≤ w1.heap.size) := ⟨by simpa using hg0, hg1, by have := b1.size; simpa using this⟩
  have NZ : Hid (Blk w1.heap.size 24 polZ (w1.alloc (.cells #[.int .i64 0, .int .i64 0, .int .i64 0, .int .i64 0, .int .i64 0, .int .i64 0, .int .i64 0, .int .i64 0, .int .i64 0, .int .i64 0, .int .i64 0, .int .i64 0, .int .i64 0, .int .i64 0, .int .i64 0, .int .i64 0, .int .i64 0, .slice none 0 0] 24))) := Blk.new _ _ _
  clear rv b1 c17 hg0 hg1 W0 W1 CO B0
  go_upto_region 3 with (first
  | (refine step_load rfl 24 (.tmp 1) rfl w.heap.size 0 rfl (polL l (.slice ao N cp)) _ (Blk.all X0.out) Try.underlying24 rfl (SZ.out _) ?_)
  | ((with_reducible refine at_store ?_); refine step_store rfl 24 (.tmp 5) (.tmp 9) rfl w1.heap.size 0 24 polZ (polL l (.slice ao N cp)) rfl rfl NZ.out (FT.out _) (SZ.out _) polL_one ?_; intro w2 nb2 g2))
  have N2 : Hid (Blk w1.heap.size 24 (polL l (.slice ao N cp)) w2) := blk_put (FZ.out _) nb2
  have D2 : Hid (w1.grownBy w2 (some w1.heap.size)) := ⟨g2.os, g2.tape, g2.output, Nat.le_trans (by simp) g2.size, fun k hk hn => (g2.block k (by simp; omega) hn).trans ((below_alloc w1 _).block k hk)⟩
  have c17 := (X0.out.grown D2.out (fun e => by injection e with e; have := GN.out; omega)).cell 17 _ (HO.out _)
  have d17 := N2.out.cell 17 _ (HO.out _)
  have f17 := N2.out.fz 17
  have N3 : Hid (Blk w1.heap.size 24 (polL l (.slice (some ⟨g, 0, none⟩) N cap)) (w2.setCell ⟨w1.heap.size, 17, none⟩ (.slice (some ⟨g, 0, none⟩) N cap))) := by
    have := N2.out.set (i := 17) (.slice (some ⟨g, 0, none⟩) N cap)
    rwa [ST.out] at this
  have D3 : Hid (w1.grownBy (w2.setCell ⟨w1.heap.size, 17, none⟩ (.slice (some ⟨g, 0, none⟩) N cap)) (some w1.heap.size)) := grownBy_trans D2.out (setCell_grown _ _ _ _)
  clear nb2 g2 D2 N2 NZ
  go_upto_region 4 with fail
  generalize w2.setCell ⟨w1.heap.size, 17, none⟩ (.slice (some ⟨g, 0, none⟩) N cap) = w3 at *
  have Y1 : Hid (Blk (w.heap.size + 1) 24 polZ w3) := X1.out.grown D3.out (fun e => by injection e with e; have := GN.out; omega)
  clear c17 d17 f17
  go_wp2_with (first
  | (refine step_load rfl 24 (.tmp 5) rfl w1.heap.size 0 rfl (polL l (.slice (some ⟨g, 0, none⟩) N cap)) _ (Blk.all N3.out) Try.underlying24 rfl (SZ.out _) ?_)
  | ((with_reducible refine at_store ?_); refine step_store rfl 24 (.tmp 2) (.tmp 16) rfl (w.heap.size + 1) 0 24 polZ (polL l (.slice (some ⟨g, 0, none⟩) N cap)) rfl rfl Y1.out (FT.out _) (SZ.out _) polL_one ?_; intro w4 nb4 g4))
  have N4 : Blk (w.heap.size + 1) 24 (polL l (.slice (some ⟨g, 0, none⟩) N cap)) w4 := blk_put (FZ.out _) nb4
  refine ret_blk_tmp rfl rfl (w.heap.size + 1) 24 (polL l (.slice (some ⟨g, 0, none⟩) N cap)) _ rfl N4 Try.underlying24 rfl (SZ.out _) ?_
  refine ⟨g, cap, rfl, ?_, ?_⟩
  · refine (RV.out.kept D3.out (fun g' e => ?_)).kept g4 (fun g' e => ?_)
    · have e : some g = some g' := e
      injection e with e; have := GN.out; intro h; injection h with h; omega
    · have e : some g = some g' := e
      injection e with e; have := GN.out; intro h; injection h with h; omega
  · exact below_row (below_row B1.out D3.out B1.out.size) g4 (by omega)
end Go.Proofs.Ytcjmjbhbdojeiaa
