/-
  Ours: lockbox.Parse.
-/
import Derived.Test.YtnjpmihffenkcaaDoorLbRbt
import Derived.Test.YtnjpmihffenkcaaDoorLbAs
import Derived.Deep.RegionHeld
namespace Go.Proofs.YtnjpmihffenkcaaDoor
open Go.RowKit LbM LbF CalM
/-- What Parse answers. -/
def ParAns (bs : List Nat) (w : World) (e : Ending) (w' : World) : Prop := Below w.heap.size w w' ∧ match parse bs with
  | .ok b => ∃ a n c, e = .returned (.tuple #[btV b (.slice a n c), .int .i64 0, .int .i64 0]) ∧ RowI w.heap.size w' (.slice a n c) b.its
  | .error (c, i) => e = .returned (.tuple #[.agg #[.int .i64 0, .int .i64 0, .slice none 0 0], .int .i64 (c : Int), .int .i64 (i : Int)])
theorem parse_cases (bs : List Nat) : (∃ c i, parse bs = .error (c, i)) ∨ ∃ d n l, parse bs = .ok ⟨d, n, l⟩ := by
  generalize parse bs = y
  cases y with
  | error q => exact .inl ⟨q.1, q.2, rfl⟩
  | ok b => exact .inr ⟨b.day, b.num, b.its, rfl⟩
set_option maxRecDepth 20000 in
set_option maxHeartbeats 8000000 in
theorem parse_at (bs : List Nat) (v : Value) (w : World) (hw : FormW w) (tp : TabP w) (hA : TabA w) (hT : TabL w) (hg : w.cell? ⟨0, 0, none⟩ = some (tyV 61)) (hl : bs.length ≤ 1000000) (h : RdB w v bs) (h8 : ∀ x ∈ bs, x < 256) : Calls Tryd.prog 17 #[v] w (ParAns bs w) := by
  have bal : Below w.heap.size w (w.alloc (.cells #[.int .i64 0, .int .i64 0, .slice none 0 0] 24)) := below_alloc w _
  have RH : Hid (∀ w', Below w.heap.size w w' → Calls Tryd.prog 26 #[v] w' (BatAns bs w')) := fun w' q => readBatch_at bs v w' (hw.later q) (tp.below q) (tabA_bel hA q) (tabL_bel hT q) hl (Rd.later h q) h8
  have HG : Hid (∀ w', Below w.heap.size w w' → w'.cell? ⟨0, 0, none⟩ = some (tyV 61)) := fun w' q => cell_up2 q hg
  have W0 : Hid (Blk w.heap.size 24 bZ (w.alloc (.cells #[.int .i64 0, .int .i64 0, .slice none 0 0] 24)) ∧ Below w.heap.size w (w.alloc (.cells #[.int .i64 0, .int .i64 0, .slice none 0 0] 24))) := ⟨Blk.new 24 bZ w, bal⟩
  generalize hans : ParAns bs w = ANS
  have AN0 : Hid (∀ w' c i, Below w.heap.size w w' → parse bs = .error (c, i) → ANS (.returned (.tuple #[.agg #[.int .i64 0, .int .i64 0, .slice none 0 0], .int .i64 (c : Int), .int .i64 (i : Int)])) w') := fun w' c i b hn => by
    rw [← hans]
    unfold ParAns
    rw [hn]
    exact ⟨b, rfl⟩
  have AN1 : Hid (∀ w' d n l a k c, Below w.heap.size w w' → parse bs = .ok ⟨d, n, l⟩ → RowI w.heap.size w' (.slice a k c) l → ANS (.returned (.tuple #[.agg #[.int .i64 d, .int .i64 n, .slice a k c], .int .i64 0, .int .i64 0])) w') := fun w' d n l a k c b hn h1 => by
    rw [← hans]
    unfold ParAns
    rw [hn]
    exact ⟨b, a, k, c, rfl, h1⟩
  clear h hw tp hA hT hg hl h8 hans bal
  go_enter Tryd.func17, Tryd.ntmps17
  go_upto_region 1 with fail
  generalize w.alloc (.cells #[.int .i64 0, .int .i64 0, .slice none 0 0] 24) = w1 at *
  go_wp2_with fail
  refine (RH.out w1 W0.out.2).mono ?_
  rintro e w2 ⟨b2, hm⟩
  have W2 : Hid (Blk w.heap.size 24 bZ w2 ∧ Below w.heap.size w w2 ∧ w.heap.size < w1.heap.size) := ⟨W0.out.1.below b2, below_trans W0.out.2 b2, W0.out.1.lt⟩
  clear b2 W0
  rcases parse_cases bs with ⟨c, i, hq⟩ | ⟨d, n, l, hq⟩
  · rw [hq] at hm
    obtain ⟨wd, hm⟩ := hm
    replace hm : e = .returned (.tuple #[.agg #[.int .i64 0, .int .i64 0, .slice none 0 0], .iface 89 (.agg #[.string wd, .iface 65 (.agg #[.int .i64 (c : Int), .int .i64 (i : Int)])])]) := hm
    subst hm
    have NO : Hid (parse bs = .error (c, i)) := hq
    clear hq
    have b3 : Below w2.heap.size w2 (w2.alloc (.cells #[.int .i64 0, .int .i64 0, .slice none 0 0] 24)) := below_alloc w2 _
    have b4 : Below w2.heap.size w2 ((w2.alloc (.cells #[.int .i64 0, .int .i64 0, .slice none 0 0] 24)).alloc (.cells #[.int .i64 0, .int .i64 0] 65)) := below_trans b3 (below_alloc _ _)
    have W3 : Hid (Blk (w2.alloc (.cells #[.int .i64 0, .int .i64 0, .slice none 0 0] 24)).heap.size 65 [.int .i64 0, .int .i64 0] ((w2.alloc (.cells #[.int .i64 0, .int .i64 0, .slice none 0 0] 24)).alloc (.cells #[.int .i64 0, .int .i64 0] 65)) ∧ Blk w.heap.size 24 bZ ((w2.alloc (.cells #[.int .i64 0, .int .i64 0, .slice none 0 0] 24)).alloc (.cells #[.int .i64 0, .int .i64 0] 65)) ∧ Below w.heap.size w ((w2.alloc (.cells #[.int .i64 0, .int .i64 0, .slice none 0 0] 24)).alloc (.cells #[.int .i64 0, .int .i64 0] 65)) ∧ w.heap.size < (w2.alloc (.cells #[.int .i64 0, .int .i64 0, .slice none 0 0] 24)).heap.size) := ⟨Blk.new 65 [.int .i64 0, .int .i64 0] _, W2.out.1.below b4, below_trans W2.out.2.1 b4, Nat.lt_of_lt_of_le W2.out.1.lt b3.size⟩
    clear b3 b4 W2
    go_upto_region 3 with fail
    generalize (w2.alloc (.cells #[.int .i64 0, .int .i64 0, .slice none 0 0] 24)).alloc (.cells #[.int .i64 0, .int .i64 0] 65) = w3 at *
    obtain ⟨T, hTT⟩ : ∃ T, (w2.alloc (.cells #[.int .i64 0, .int .i64 0, .slice none 0 0] 24)).heap.size = T := ⟨_, rfl⟩
    rw [hTT] at W3
    try rw [hTT]
    try (have hT2 : w2.heap.size + 1 = T := by rw [← hTT]; simp
         simp only [hT2]; clear hT2)
    clear hTT
    go_wp2_with fail
    refine (as_hit2 wd (c : Int) (i : Int) T [.int .i64 0, .int .i64 0] w3 (HG.out w3 W3.out.2.2.1) rfl W3.out.1).mono ?_
    rintro e w4 ⟨rfl, bT, g4⟩
    have W4 : Hid (Blk T 65 [.int .i64 (c : Int), .int .i64 (i : Int)] w4 ∧ Blk w.heap.size 24 bZ w4 ∧ Below w.heap.size w w4 ∧ w.heap.size < T) := ⟨bT, W3.out.2.1.grown g4 (fun e => by injection e with e; have := W3.out.2.2.2; omega), below_row W3.out.2.2.1 g4 (Nat.le_of_lt W3.out.2.2.2), W3.out.2.2.2⟩
    clear bT g4 W3
    go_upto_region 4 with fail
    refine wp_region_held_drew (S := fun w' => w'.cell? ⟨T, 0, none⟩ = some (.int .i64 (c : Int)) ∧ w'.cell? ⟨T, 1, none⟩ = some (.int .i64 (i : Int))) (by kernel_rfl) (⟨W4.out.1.cell 0 _ rfl, W4.out.1.cell 1 _ rfl⟩) (fun hH => ?_)
    refine wpAnyH_take (i := 0) (oi := { dst := some 16, op := Op.build 24 #[], type := 24, pos := "lockbox.go:38", after := #[], guard := none }) (v := .agg #[.int .i64 0, .int .i64 0, .slice none 0 0]) rfl (by kernel_rfl) (by kernel_rfl) (by kernel_rfl) (fun _ _ _ h => h) (Or.inl ⟨by rfl, fun w' hs => by go_simp⟩) hH ?_
    try simp only [Act.put, List.setIfInBounds_toArray, List.set_cons_zero, List.set_cons_succ]
    refine wpAnyH_take (i := 1) (oi := { dst := some 17, op := Op.fieldAddr 65 (Operand.tmp 7) 0, type := 0, pos := "lockbox.go:38", after := #[{ on := 5, ground := Ground.gcOnly Departure.lateStores }], guard := none }) (v := .pointer (some ⟨T, 0, none⟩)) rfl (by kernel_rfl) (by kernel_rfl) (by kernel_rfl) (fun _ _ _ h => h) (Or.inl ⟨by rfl, fun w' hs => by go_simp⟩) hH ?_
    try simp only [Act.put, List.setIfInBounds_toArray, List.set_cons_zero, List.set_cons_succ]
    refine wpAnyH_take (i := 2) (oi := { dst := some 18, op := Op.load 37 (Operand.tmp 17), type := 37, pos := "lockbox.go:38", after := #[{ on := 1, ground := Ground.data }, { on := 5, ground := Ground.gcOnly Departure.lateStores }], guard := none }) (v := .int .i64 (c : Int)) rfl (by kernel_rfl) (by kernel_rfl) (by kernel_rfl) (fun _ _ _ h => h) (Or.inl ⟨by rfl, fun w' hs => by have c := hs.1; go_simp⟩) hH ?_
    try simp only [Act.put, List.setIfInBounds_toArray, List.set_cons_zero, List.set_cons_succ]
    refine wpAnyH_take (i := 3) (oi := { dst := some 19, op := Op.fieldAddr 65 (Operand.tmp 7) 1, type := 0, pos := "lockbox.go:38", after := #[{ on := 6, ground := Ground.gcOnly Departure.lateStores }], guard := none }) (v := .pointer (some ⟨T, 1, none⟩)) rfl (by kernel_rfl) (by kernel_rfl) (by kernel_rfl) (fun _ _ _ h => h) (Or.inl ⟨by rfl, fun w' hs => by go_simp⟩) hH ?_
    try simp only [Act.put, List.setIfInBounds_toArray, List.set_cons_zero, List.set_cons_succ]
    refine wpAnyH_take (i := 4) (oi := { dst := some 20, op := Op.load 3 (Operand.tmp 19), type := 3, pos := "lockbox.go:38", after := #[{ on := 3, ground := Ground.data }, { on := 6, ground := Ground.gcOnly Departure.lateStores }], guard := none }) (v := .int .i64 (i : Int)) rfl (by kernel_rfl) (by kernel_rfl) (by kernel_rfl) (fun _ _ _ h => h) (Or.inl ⟨by rfl, fun w' hs => by have c := hs.2; go_simp⟩) hH ?_
    try simp only [Act.put, List.setIfInBounds_toArray, List.set_cons_zero, List.set_cons_succ]
    refine wpAnyH_ready (rs := [5]) (by kernel_rfl) (by simp) ?_
    refine AllReadyH.cons (o := { dst := none, op := Op.store 24 (Operand.tmp 2) (Operand.tmp 16), type := 0, pos := "lockbox.go:38", after := #[{ on := 0, ground := Ground.data }, { on := 0, ground := Ground.phase }, { on := 1, ground := Ground.textOnly Departure.lateStores }, { on := 2, ground := Ground.textOnly Departure.lateStores }, { on := 3, ground := Ground.textOnly Departure.lateStores }, { on := 4, ground := Ground.textOnly Departure.lateStores }], guard := none }) rfl (fun Kx hK => ?_) AllReadyH.nil
    refine op_putC (zs := bZ) bZ rfl (sizeB3 _ _ _) (oneB3 _ _ _ _ _) rfl _ _ rfl w.heap.size rfl rfl (W4.out.2.1.below (Below.drew (Below.refl _ _))) ?_
    intro w5 nb5 g6
    have g5 : w4.grownBy w5 (some w.heap.size) := ⟨g6.os, g6.tape, g6.output, g6.size, g6.block⟩
    clear g6
    refine hK.out _ _ ⟨(W4.out.1.grown g5 (fun e => by injection e with e; have := W4.out.2.2.2; omega)).cell 0 _ rfl, (W4.out.1.grown g5 (fun e => by injection e with e; have := W4.out.2.2.2; omega)).cell 1 _ rfl⟩ (fun hH => ?_)
    try simp only [Act.put]
    refine wpAnyH_take (i := 6) (oi := { dst := some 3, op := Op.assign (Operand.tmp 18), type := 37, pos := "lockbox.go:38", after := #[{ on := 2, ground := Ground.data }, { on := 5, ground := Ground.chain }, { on := 0, ground := Ground.phase }, { on := 1, ground := Ground.phase }, { on := 2, ground := Ground.phase }, { on := 3, ground := Ground.textOnly Departure.lateStores }, { on := 4, ground := Ground.textOnly Departure.lateStores }, { on := 5, ground := Ground.phase }], guard := none }) (v := .int .i64 (c : Int)) rfl (by kernel_rfl) (by kernel_rfl) (by kernel_rfl) (fun _ _ _ h => h) (Or.inl ⟨by rfl, fun w' hs => by go_simp⟩) hH ?_
    try simp only [Act.put, List.setIfInBounds_toArray, List.set_cons_zero, List.set_cons_succ]
    refine wpAnyH_take (i := 7) (oi := { dst := some 4, op := Op.assign (Operand.tmp 20), type := 3, pos := "lockbox.go:38", after := #[{ on := 4, ground := Ground.data }, { on := 6, ground := Ground.chain }, { on := 0, ground := Ground.phase }, { on := 1, ground := Ground.phase }, { on := 2, ground := Ground.phase }, { on := 3, ground := Ground.phase }, { on := 4, ground := Ground.phase }, { on := 5, ground := Ground.phase }, { on := 6, ground := Ground.phase }], guard := none }) (v := .int .i64 (i : Int)) rfl (by kernel_rfl) (by kernel_rfl) (by kernel_rfl) (fun _ _ _ h => h) (Or.inl ⟨by rfl, fun w' hs => by go_simp⟩) hH ?_
    try simp only [Act.put, List.setIfInBounds_toArray, List.set_cons_zero, List.set_cons_succ]
    refine wpAnyH_done (by kernel_rfl) ?_ _
    have B5 : Hid (Below w.heap.size w w5) := below_row W4.out.2.2.1 g5 (Nat.le_refl _)
    clear hH g5 W4
    go_wp2_with fail
    refine ret_blk_tmp2 rfl rfl w.heap.size 24 bZ _ rfl nb5 Tryd.underlying24 rfl (sizeB3 _ _ _) ?_
    exact AN0.out _ c i B5.out NO.out
  · rw [hq] at hm
    obtain ⟨a, k, cp, rfl, ri⟩ := hm
    have YES : Hid (parse bs = .ok ⟨d, n, l⟩) := hq
    have b3 : Below w2.heap.size w2 (w2.alloc (.cells #[.int .i64 d, .int .i64 n, .slice a k cp] 24)) := below_alloc w2 _
    have b4 : Below w2.heap.size w2 ((w2.alloc (.cells #[.int .i64 d, .int .i64 n, .slice a k cp] 24)).alloc (.cells #[.int .i64 0, .int .i64 0] 65)) := below_trans b3 (below_alloc _ _)
    have W3 : Hid (Blk w2.heap.size 24 [.int .i64 d, .int .i64 n, .slice a k cp] ((w2.alloc (.cells #[.int .i64 d, .int .i64 n, .slice a k cp] 24)).alloc (.cells #[.int .i64 0, .int .i64 0] 65)) ∧ Blk w.heap.size 24 bZ ((w2.alloc (.cells #[.int .i64 d, .int .i64 n, .slice a k cp] 24)).alloc (.cells #[.int .i64 0, .int .i64 0] 65)) ∧ Below w.heap.size w ((w2.alloc (.cells #[.int .i64 d, .int .i64 n, .slice a k cp] 24)).alloc (.cells #[.int .i64 0, .int .i64 0] 65)) ∧ RowI w1.heap.size ((w2.alloc (.cells #[.int .i64 d, .int .i64 n, .slice a k cp] 24)).alloc (.cells #[.int .i64 0, .int .i64 0] 65)) (.slice a k cp) l) := ⟨(Blk.new 24 [.int .i64 d, .int .i64 n, .slice a k cp] w2).below (below_alloc _ _), W2.out.1.below b4, below_trans W2.out.2.1 b4, own_later ri b4⟩
    have LT : Hid (w.heap.size < w1.heap.size) := W2.out.2.2
    clear b3 b4 W2 hq ri
    go_upto_region 3 with fail
    generalize (w2.alloc (.cells #[.int .i64 d, .int .i64 n, .slice a k cp] 24)).alloc (.cells #[.int .i64 0, .int .i64 0] 65) = w3 at *
    go_wp2_with fail
    refine (as_nil _ w3).mono ?_
    rintro e w4 ⟨rfl, rfl⟩
    go_wp2_with (first
      | (refine step_load rfl 24 _ rfl w2.heap.size 0 rfl [.int .i64 d, .int .i64 n, .slice a k cp] _ (Blk.all W3.out.1) Tryd.underlying24 rfl (sizeB3 _ _ _) ?_)
      | (refine step_store rfl 24 _ _ rfl w.heap.size 0 24 bZ [.int .i64 d, .int .i64 n, .slice a k cp] rfl rfl W3.out.2.1 (Nat.le_refl _) (sizeB3 _ _ _) (oneB3 _ _ _ _ _) ?_; intro w5 nb5 g5))
    refine ret_blk_tmp2 rfl rfl w.heap.size 24 [.int .i64 d, .int .i64 n, .slice a k cp] _ rfl nb5 Tryd.underlying24 rfl (sizeB3 _ _ _) ?_
    have lt := LT.out
    have ro := W3.out.2.2.2
    refine AN1.out _ d n l a k cp (below_row W3.out.2.2.1 g5 (Nat.le_refl _)) YES.out (own_mono (World.ownsRow.kept ro g5 ?_) (Nat.le_of_lt lt))
    cases hv : (Value.slice a k cp).ownBlock with
    | none => exact .inl rfl
    | some g => exact .inr (fun e => by have := (World.ownsRow.lt ro g hv).1; injection e with e; omega)
end Go.Proofs.YtnjpmihffenkcaaDoor
