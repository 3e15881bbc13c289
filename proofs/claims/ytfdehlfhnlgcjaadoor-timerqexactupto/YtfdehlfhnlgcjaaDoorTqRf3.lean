/-
  Ours: the reference's Put, Cancel, Move.
-/
import Derived.Test.YtfdehlfhnlgcjaaDoorTqRf2
namespace Go.Proofs.YtfdehlfhnlgcjaaDoor
open Go.RowKit TqM

abbrev GetR (k : Ky) (G : List (Ky × Int)) (x : Int) (b : Bool) : Prop := (b = false ∧ x = 0 ∧ k ∉ G.map (·.1)) ∨ (b = true ∧ (k, x) ∈ G ∧ (G.map (·.1)).Nodup)

set_option maxRecDepth 20000 in
set_option maxHeartbeats 2000000 in
theorem rput_no (G : List (Ky × Int)) (v : Value) (k : Ky) (n : Int) (w : World) (hl : G.length ≤ 1000000000) (h : RdI w v G) (x : Int) (hx : (k, x) ∈ G) (hnd : (G.map (·.1)).Nodup) :
    Calls Tryd.prog 12 #[v, kyV k, .int .i64 n] w fun e w' => e = .returned (.tuple #[v, .int .i64 110]) ∧ Below w.heap.size w w' := by
  have GE : Hid (∀ w', Below w.heap.size w w' → Calls Tryd.prog 26 #[v, .agg #[.int .i64 k.d, .int .i64 k.l, .int .i64 k.n]] w' fun e w2 => e = .returned (.tuple #[.int .i64 x, .bool true]) ∧ Below w'.heap.size w' w2) := fun w' b => rget_at G v k w' hl (h.later b) x true (.inr ⟨rfl, hx, hnd⟩)
  have B0 : Hid (Below w.heap.size w (w.alloc (.cells #[.int .i64 k.d, .int .i64 k.l, .int .i64 k.n] 24))) := below_alloc _ _
  clear h hx hnd
  go_enter Tryd.func12, Tryd.ntmps12
  go_wp2_with fail
  refine (GE.out _ B0.out).mono ?_
  rintro e w2 ⟨rfl, b2⟩
  have F : Hid (Below w.heap.size w w2) := below_trans B0.out b2
  clear b2 B0 GE
  go_wp2_with fail
  go_ret2
  exact ⟨rfl, F.out⟩

set_option maxRecDepth 20000 in
set_option maxHeartbeats 2000000 in
theorem rput_yes (G : List (Ky × Int)) (v : Value) (k : Ky) (n : Int) (w : World) (hl : G.length ≤ 1000000000) (h : RdI w v G) (hx : k ∉ G.map (·.1)) :
    Calls Tryd.prog 12 #[v, kyV k, .int .i64 n] w fun e w' => ∃ v', e = .returned (.tuple #[v', .int .i64 0]) ∧ RowI w.heap.size w' v' (ins (k, n) G) ∧ Below w.heap.size w w' := by
  have GE : Hid (∀ w', Below w.heap.size w w' → Calls Tryd.prog 26 #[v, .agg #[.int .i64 k.d, .int .i64 k.l, .int .i64 k.n]] w' fun e w2 => e = .returned (.tuple #[.int .i64 0, .bool false]) ∧ Below w'.heap.size w' w2) := fun w' b => rget_at G v k w' hl (h.later b) 0 false (.inl ⟨rfl, rfl, hx⟩)
  have WI : Hid (∀ w', Below w.heap.size w w' → Calls Tryd.prog 27 #[v, .agg #[.int .i64 k.d, .int .i64 k.l, .int .i64 k.n], .int .i64 n] w' fun e w2 => ∃ v', e = .returned v' ∧ RowI w'.heap.size w2 v' (ins (k, n) G) ∧ Below w'.heap.size w' w2) := fun w' b => rwith_at G v (k, n) w' hl (h.later b)
  have B0 : Hid (Below w.heap.size w (w.alloc (.cells #[.int .i64 k.d, .int .i64 k.l, .int .i64 k.n] 24)) ∧ Blk w.heap.size 24 (kyL k) (w.alloc (.cells #[.int .i64 k.d, .int .i64 k.l, .int .i64 k.n] 24))) := ⟨below_alloc _ _, Blk.new 24 (kyL k) w⟩
  clear h hx
  go_enter Tryd.func12, Tryd.ntmps12
  go_wp2_with fail
  refine (GE.out _ B0.out.1).mono ?_
  rintro e w2 ⟨rfl, b2⟩
  have F : Hid (Below w.heap.size w w2) := below_trans B0.out.1 b2
  have B2 := B0.out.2.below b2
  have y0 := B2.cell 0 _ rfl
  have y1 := B2.cell 1 _ rfl
  have y2 := B2.cell 2 _ rfl
  clear b2 B0 GE B2
  go_wp2_with fail
  refine (WI.out _ F.out).mono ?_
  rintro e w3 ⟨v', rfl, r3, b3⟩
  have F3 : Hid (RowI w.heap.size w3 v' (ins (k, n) G) ∧ Below w.heap.size w w3) := ⟨r3.mono F.out.size, below_trans F.out b3⟩
  clear b3 r3 F WI y0 y1 y2
  go_wp2_with fail
  go_ret2
  exact ⟨v', rfl, F3.out⟩

set_option maxRecDepth 20000 in
set_option maxHeartbeats 2000000 in
theorem rcancel_at (G : List (Ky × Int)) (v : Value) (k : Ky) (w : World) (hl : G.length ≤ 1000000000) (h : RdI w v G) (x : Int) (b : Bool) (hx : GetR k G x b) :
    Calls Tryd.prog 17 #[v, kyV k] w fun e w' => ∃ v', e = .returned (.tuple #[v', .bool b]) ∧ RowI w.heap.size w' v' (G.filter (fun x => !decide (x.1 = k))) ∧ Below w.heap.size w w' := by
  have GE : Hid (∀ w', Below w.heap.size w w' → Calls Tryd.prog 26 #[v, .agg #[.int .i64 k.d, .int .i64 k.l, .int .i64 k.n]] w' fun e w2 => e = .returned (.tuple #[.int .i64 x, .bool b]) ∧ Below w'.heap.size w' w2) := fun w' b => rget_at G v k w' hl (h.later b) x _ hx
  have WI : Hid (∀ w', Below w.heap.size w w' → Calls Tryd.prog 33 #[v, .agg #[.int .i64 k.d, .int .i64 k.l, .int .i64 k.n]] w' fun e w2 => ∃ v', e = .returned v' ∧ RowI w'.heap.size w2 v' (G.filter (fun x => !decide (x.1 = k))) ∧ Below w'.heap.size w' w2) := fun w' b => rwithout_at G v k w' hl (h.later b)
  have B0 : Hid (Below w.heap.size w (w.alloc (.cells #[.int .i64 k.d, .int .i64 k.l, .int .i64 k.n] 24)) ∧ Blk w.heap.size 24 (kyL k) (w.alloc (.cells #[.int .i64 k.d, .int .i64 k.l, .int .i64 k.n] 24))) := ⟨below_alloc _ _, Blk.new 24 (kyL k) w⟩
  clear h hx
  go_enter Tryd.func17, Tryd.ntmps17
  go_wp2_with fail
  refine (GE.out _ B0.out.1).mono ?_
  rintro e w2 ⟨rfl, b2⟩
  have F : Hid (Below w.heap.size w w2) := below_trans B0.out.1 b2
  have B2 := B0.out.2.below b2
  have y0 := B2.cell 0 _ rfl
  have y1 := B2.cell 1 _ rfl
  have y2 := B2.cell 2 _ rfl
  clear b2 B0 GE B2
  go_wp2_with fail
  refine (WI.out _ F.out).mono ?_
  rintro e w3 ⟨v', rfl, r3, b3⟩
  have F3 : Hid (RowI w.heap.size w3 v' (G.filter (fun x => !decide (x.1 = k))) ∧ Below w.heap.size w w3) := ⟨r3.mono F.out.size, below_trans F.out b3⟩
  clear b3 r3 F WI y0 y1 y2
  go_wp2_with fail
  go_ret2
  exact ⟨v', rfl, F3.out⟩

set_option maxRecDepth 20000 in
set_option maxHeartbeats 2000000 in
theorem rmove_no (G : List (Ky × Int)) (v : Value) (k : Ky) (day : Int) (w : World) (hl : G.length ≤ 1000000000) (h : RdI w v G) (hx : k ∉ G.map (·.1)) :
    Calls Tryd.prog 20 #[v, kyV k, .int .i64 day] w fun e w' => e = .returned (.tuple #[v, .int .i64 110]) ∧ Below w.heap.size w w' := by
  have GE : Hid (∀ w', Below w.heap.size w w' → Calls Tryd.prog 26 #[v, .agg #[.int .i64 k.d, .int .i64 k.l, .int .i64 k.n]] w' fun e w2 => e = .returned (.tuple #[.int .i64 0, .bool false]) ∧ Below w'.heap.size w' w2) := fun w' b => rget_at G v k w' hl (h.later b) 0 false (.inl ⟨rfl, rfl, hx⟩)
  have B0 : Hid (Below w.heap.size w (w.alloc (.cells #[.int .i64 k.d, .int .i64 k.l, .int .i64 k.n] 24))) := below_alloc _ _
  clear h hx
  go_enter Tryd.func20, Tryd.ntmps20
  go_wp2_with fail
  refine (GE.out _ B0.out).mono ?_
  rintro e w2 ⟨rfl, b2⟩
  have F : Hid (Below w.heap.size w w2) := below_trans B0.out b2
  clear b2 B0 GE
  go_wp2_with fail
  go_ret2
  exact ⟨rfl, F.out⟩

set_option maxRecDepth 20000 in
set_option maxHeartbeats 2000000 in
theorem rmove_same (G : List (Ky × Int)) (v : Value) (k : Ky) (w : World) (hl : G.length ≤ 1000000000) (h : RdI w v G) (x : Int) (hx : (k, x) ∈ G) (hnd : (G.map (·.1)).Nodup) :
    Calls Tryd.prog 20 #[v, kyV k, .int .i64 k.d] w fun e w' => e = .returned (.tuple #[v, .int .i64 0]) ∧ Below w.heap.size w w' := by
  have GE : Hid (∀ w', Below w.heap.size w w' → Calls Tryd.prog 26 #[v, .agg #[.int .i64 k.d, .int .i64 k.l, .int .i64 k.n]] w' fun e w2 => e = .returned (.tuple #[.int .i64 x, .bool true]) ∧ Below w'.heap.size w' w2) := fun w' b => rget_at G v k w' hl (h.later b) x true (.inr ⟨rfl, hx, hnd⟩)
  have B0 : Hid (Below w.heap.size w (w.alloc (.cells #[.int .i64 k.d, .int .i64 k.l, .int .i64 k.n] 24)) ∧ Blk w.heap.size 24 (kyL k) (w.alloc (.cells #[.int .i64 k.d, .int .i64 k.l, .int .i64 k.n] 24))) := ⟨below_alloc _ _, Blk.new 24 (kyL k) w⟩
  clear h hx hnd
  go_enter Tryd.func20, Tryd.ntmps20
  go_wp2_with fail
  refine (GE.out _ B0.out.1).mono ?_
  rintro e w2 ⟨rfl, b2⟩
  have F : Hid (Below w.heap.size w w2) := below_trans B0.out.1 b2
  have B2 := B0.out.2.below b2
  have y0 := B2.cell 0 _ rfl
  have y1 := B2.cell 1 _ rfl
  have y2 := B2.cell 2 _ rfl
  clear b2 B0 GE B2
  go_wp2_with fail
  go_ret2
  exact ⟨rfl, F.out⟩

set_option maxRecDepth 20000 in
set_option maxHeartbeats 2000000 in
theorem rmove_taken (G : List (Ky × Int)) (v : Value) (k : Ky) (day : Int) (w : World) (hl : G.length ≤ 1000000000) (h : RdI w v G) (x y : Int) (hx : (k, x) ∈ G) (hnd : (G.map (·.1)).Nodup) (hd : day ≠ k.d) (hy : (⟨day, k.l, k.n⟩, y) ∈ G) :
    Calls Tryd.prog 20 #[v, kyV k, .int .i64 day] w fun e w' => e = .returned (.tuple #[v, .int .i64 110]) ∧ Below w.heap.size w w' := by
  have GE : Hid (∀ w', Below w.heap.size w w' → Calls Tryd.prog 26 #[v, .agg #[.int .i64 k.d, .int .i64 k.l, .int .i64 k.n]] w' fun e w2 => e = .returned (.tuple #[.int .i64 x, .bool true]) ∧ Below w'.heap.size w' w2) := fun w' b => rget_at G v k w' hl (h.later b) x true (.inr ⟨rfl, hx, hnd⟩)
  have GF : Hid (∀ w', Below w.heap.size w w' → Calls Tryd.prog 26 #[v, .agg #[.int .i64 day, .int .i64 k.l, .int .i64 k.n]] w' fun e w2 => e = .returned (.tuple #[.int .i64 y, .bool true]) ∧ Below w'.heap.size w' w2) := fun w' b => rget_at G v ⟨day, k.l, k.n⟩ w' hl (h.later b) y true (.inr ⟨rfl, hy, hnd⟩)
  have B0 : Hid (Below w.heap.size w (w.alloc (.cells #[.int .i64 k.d, .int .i64 k.l, .int .i64 k.n] 24)) ∧ Blk w.heap.size 24 (kyL k) (w.alloc (.cells #[.int .i64 k.d, .int .i64 k.l, .int .i64 k.n] 24))) := ⟨below_alloc _ _, Blk.new 24 (kyL k) w⟩
  have hd' : (day == k.d) = false := by simpa using hd
  clear h hx hnd hd hy
  go_enter Tryd.func20, Tryd.ntmps20
  go_wp2_with fail
  refine (GE.out _ B0.out.1).mono ?_
  rintro e w2 ⟨rfl, b2⟩
  have F : Hid (Below w.heap.size w (w2.alloc (.cells #[.int .i64 day, .int .i64 k.l, .int .i64 k.n] 24))) := below_trans (below_trans B0.out.1 b2) (below_alloc _ _)
  have B2 := B0.out.2.below b2
  have y0 := B2.cell 0 _ rfl
  have y1 := B2.cell 1 _ rfl
  have y2 := B2.cell 2 _ rfl
  clear b2 B0 GE B2
  go_wp2_with fail
  refine (GF.out _ F.out).mono ?_
  rintro e w3 ⟨rfl, b3⟩
  have F3 : Hid (Below w.heap.size w w3) := below_trans F.out b3
  clear b3 F GF y0 y1 y2
  go_wp2_with fail
  go_ret2
  exact ⟨rfl, F3.out⟩

set_option maxRecDepth 20000 in
set_option maxHeartbeats 2000000 in
theorem rmove_yes (G : List (Ky × Int)) (v : Value) (k : Ky) (day : Int) (w : World) (hl : G.length ≤ 1000000000) (h : RdI w v G) (x : Int) (hx : (k, x) ∈ G) (hnd : (G.map (·.1)).Nodup) (hd : day ≠ k.d) (hy : ⟨day, k.l, k.n⟩ ∉ G.map (·.1)) :
    Calls Tryd.prog 20 #[v, kyV k, .int .i64 day] w fun e w' => ∃ v', e = .returned (.tuple #[v', .int .i64 0]) ∧ RowI w.heap.size w' v' (ins (⟨day, k.l, k.n⟩, x) (G.filter (fun x => !decide (x.1 = k)))) ∧ Below w.heap.size w w' := by
  have GE : Hid (∀ w', Below w.heap.size w w' → Calls Tryd.prog 26 #[v, .agg #[.int .i64 k.d, .int .i64 k.l, .int .i64 k.n]] w' fun e w2 => e = .returned (.tuple #[.int .i64 x, .bool true]) ∧ Below w'.heap.size w' w2) := fun w' b => rget_at G v k w' hl (h.later b) x true (.inr ⟨rfl, hx, hnd⟩)
  have GF : Hid (∀ w', Below w.heap.size w w' → Calls Tryd.prog 26 #[v, .agg #[.int .i64 day, .int .i64 k.l, .int .i64 k.n]] w' fun e w2 => e = .returned (.tuple #[.int .i64 0, .bool false]) ∧ Below w'.heap.size w' w2) := fun w' b => rget_at G v ⟨day, k.l, k.n⟩ w' hl (h.later b) 0 false (.inl ⟨rfl, rfl, hy⟩)
  have WO : Hid (∀ w', Below w.heap.size w w' → Calls Tryd.prog 33 #[v, .agg #[.int .i64 k.d, .int .i64 k.l, .int .i64 k.n]] w' fun e w2 => ∃ v', e = .returned v' ∧ RowI w'.heap.size w2 v' (G.filter (fun x => !decide (x.1 = k))) ∧ Below w'.heap.size w' w2) := fun w' b => rwithout_at G v k w' hl (h.later b)
  have WI : Hid (∀ (v' : Value) w', RdI w' v' (G.filter (fun x => !decide (x.1 = k))) → Calls Tryd.prog 27 #[v', .agg #[.int .i64 day, .int .i64 k.l, .int .i64 k.n], .int .i64 x] w' fun e w2 => ∃ v2, e = .returned v2 ∧ RowI w'.heap.size w2 v2 (ins (⟨day, k.l, k.n⟩, x) (G.filter (fun x => !decide (x.1 = k)))) ∧ Below w'.heap.size w' w2) := fun v' w' r => rwith_at _ v' (⟨day, k.l, k.n⟩, x) w' (Nat.le_trans (List.length_filter_le _ _) hl) r
  have B0 : Hid (Below w.heap.size w (w.alloc (.cells #[.int .i64 k.d, .int .i64 k.l, .int .i64 k.n] 24)) ∧ Blk w.heap.size 24 (kyL k) (w.alloc (.cells #[.int .i64 k.d, .int .i64 k.l, .int .i64 k.n] 24))) := ⟨below_alloc _ _, Blk.new 24 (kyL k) w⟩
  have hd' : (day == k.d) = false := by simpa using hd
  clear h hx hnd hd hy
  go_enter Tryd.func20, Tryd.ntmps20
  go_wp2_with fail
  refine (GE.out _ B0.out.1).mono ?_
  rintro e w2 ⟨rfl, b2⟩
  have F : Hid (Below w.heap.size w (w2.alloc (.cells #[.int .i64 day, .int .i64 k.l, .int .i64 k.n] 24)) ∧ Blk w.heap.size 24 (kyL k) (w2.alloc (.cells #[.int .i64 day, .int .i64 k.l, .int .i64 k.n] 24)) ∧ Blk w2.heap.size 24 (kyL ⟨day, k.l, k.n⟩) (w2.alloc (.cells #[.int .i64 day, .int .i64 k.l, .int .i64 k.n] 24))) := ⟨below_trans (below_trans B0.out.1 b2) (below_alloc _ _), (B0.out.2.below b2).below (below_alloc _ _), Blk.new 24 (kyL ⟨day, k.l, k.n⟩) w2⟩
  have B2 := B0.out.2.below b2
  have y0 := B2.cell 0 _ rfl
  have y1 := B2.cell 1 _ rfl
  have y2 := B2.cell 2 _ rfl
  clear b2 B0 GE B2
  go_wp2_with fail
  refine (GF.out _ F.out.1).mono ?_
  rintro e w3 ⟨rfl, b3⟩
  have F3 : Hid (Below w.heap.size w w3 ∧ Blk w2.heap.size 24 (kyL ⟨day, k.l, k.n⟩) w3) := ⟨below_trans F.out.1 b3, F.out.2.2.below b3⟩
  have B3 := F.out.2.1.below b3
  clear y0 y1 y2
  have y0 := B3.cell 0 _ rfl
  have y1 := B3.cell 1 _ rfl
  have y2 := B3.cell 2 _ rfl
  clear b3 F GF B3
  have S0 : Hid (K7r w3 w2.heap.size 0 w.heap.size 0 ⟨day, k.l, k.n⟩ k w3.drew) := ⟨Below.drew (Below.refl _ _), F3.out.2.cell 0 _ rfl, F3.out.2.cell 1 _ rfl, F3.out.2.cell 2 _ rfl, y0, y1, y2⟩
  clear y0 y1 y2
  generalize w2.heap.size = Q at *
  go_upto_region 10 with fail
  go_region_held3 (fun w' => K7r w3 Q 0 w.heap.size 0 ⟨day, k.l, k.n⟩ k w') (first | assumption | exact S0.out | exact K7r.keep hU (by assumption)) (first
    | (go_at_call 33; refine (WO.out _ (below_trans F3.out.1 (And.left (show K7r w3 Q 0 w.heap.size 0 ⟨day, k.l, k.n⟩ k _ by assumption)))).mono ?_; rintro e w4 ⟨v4, rfl, r4, hU⟩; have R4 := r4.rd)
    | (go_at_call 27; refine (WI.out v4 _ R4).mono ?_; rintro e w5 ⟨v5, rfl, r5, hU⟩; have R5 := r5.mono (Nat.le_trans F3.out.1.size (Below.size (And.left (show K7r w3 Q 0 w.heap.size 0 ⟨day, k.l, k.n⟩ k w4 by assumption))))))
  have b5 : Below w3.heap.size w3 w5 := And.left (show K7r w3 Q 0 w.heap.size 0 ⟨day, k.l, k.n⟩ k w5 by assumption)
  have F5 : Hid (RowI w.heap.size w5 v5 (ins (⟨day, k.l, k.n⟩, x) (G.filter (fun x => !decide (x.1 = k)))) ∧ Below w.heap.size w w5) := by
    exact ⟨R5, below_trans F3.out.1 b5⟩
  clear R4 r4 R5 r5 hU b5 S0 F3 WI WO
  go_wp2_with fail
  go_ret2
  exact ⟨v5, rfl, F5.out⟩
end Go.Proofs.YtfdehlfhnlgcjaaDoor
