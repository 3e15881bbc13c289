/-
  Ours: what both Opens answer, in one form.
-/
import Derived.Test.YtgdmkcbbomfmdaaGreatDoorLoCat
import Derived.Test.YtgdmkcbbomfmdaaGreatDoorPolChk
import Derived.Deep.Cut
import Derived.Deep.CutRange
import Derived.Deep.QuietTactic
import Derived.BigQuiet
import Derived.Test.YtgdmkcbbomfmdaaGreatDoorLoROp
import Derived.Test.YtgdmkcbbomfmdaaGreatDoorLoRw
import Derived.Test.YtgdmkcbbomfmdaaGreatDoorLoSmL
namespace Go.Proofs.YtgdmkcbbomfmdaaGreatDoor
open Go.RowKit LedM PolM CoM LoM

theorem row_ne_blkL {e T : TypeId} {base k n g : Nat} {w : World} {v : Value} {xs cs : List Value} (h : w.ownsRow base e k v n xs) (hb : Blk g T cs w) (hne : e ≠ T) : v.ownBlock ≠ some g := by
  intro hg
  rcases h.2 with ⟨rfl, _⟩ | ⟨g1, cap, cur, rfl, _, hh, _⟩
  · simp [Value.ownBlock] at hg
  obtain rfl : g1 = g := by simpa [Value.ownBlock] using hg
  unfold Blk at hb
  rw [hh] at hb
  injection hb with hb
  injection hb with h1 h2
  exact hne h2
def polZl : List Value := polL [0, 0, 0, 0, 0, 0, 0, 0, 0, 0, 0, 0, 0, 0, 0, 0, 0] (.slice none 0 0)
theorem polL_oneL {l : List Int} {a : Option Addr} {n c : Nat} : ∀ v ∈ polL l (.slice a n c), v.oneCell' = true := fun v hv => by
  rcases List.mem_append.1 hv with h | h
  · exact bkL_one l v h
  · simp at h; subst h; rfl
theorem polL_setL {l : List Int} {s t : Value} (hl : l.length = 17) : (polL l s).set 17 t = polL l t := by
  rw [polL, List.set_append_right _ _ (by rw [bkL_len]; omega), bkL_len, hl]; rfl
/-- Holidays and the mark behind them, in a block of their own. -/
def OwnH (base : Nat) (w : World) (g N cap : Nat) (hs : List Int) : Prop := N = hs.length ∧ N + 1 ≤ cap ∧ RowV 3 base w (.slice (some ⟨g, 0, none⟩) (N + 1) cap) (bkL (hs ++ [-44]))
/-- What own answers. -/
def LOwnAns (l hs : List Int) (w : World) (e : Ending) (w' : World) : Prop := ∃ g N cap, e = .returned (.agg (polL l (.slice (some ⟨g, 0, none⟩) N cap)).toArray) ∧ OwnH w.heap.size w' g N cap hs ∧ Below w.heap.size w w'
theorem rowV_some {e : TypeId} {base n : Nat} {w : World} {v : Value} {vs : List Value} (h : RowV e base w v vs) (hn : vs.length = n + 1) : ∃ g cap, v = .slice (some ⟨g, 0, none⟩) (n + 1) cap ∧ n + 1 ≤ cap ∧ base ≤ g := by
  unfold RowV at h
  rw [hn] at h
  rcases h.2 with ⟨_, h0⟩ | ⟨g, cap, cur, rfl, hb, _, hc, _⟩
  · omega
  · exact ⟨g, cap, rfl, hc, hb⟩
theorem infoInt3 : (Tryz.prog.info? 3).map (fun i => (i.zero, i.size, i.bytes)) = some (some (.int .i64 0), 1, 8) := by kernel_rfl
theorem nilOwnL (g : Nat) : (Value.slice none 0 0).ownBlock ≠ some g := fun h => by cases h

set_option maxRecDepth 20000 in
set_option maxHeartbeats 2000000 in
theorem lown_at (l hs : List Int) (s : Value) (w : World) (hl : l.length = 17) (hr : Rd w s (bkL hs)) (hb : hs.length * 8 ≤ 140737488355320) :
    Calls Tryz.prog 4 #[.agg (polL l s).toArray] w (LOwnAns l hs w) := by
  obtain ⟨i0, hi, hz0, hz1, hz2⟩ := info_parts infoInt3
  have SZ : Hid (∀ t : Value, (Tryz.prog.info? 24).map (·.size) = some (polL l t).length) := fun t => by show _ = _; rw [polL_len hl]; kernel_rfl
  have FT : Hid (∀ t : Value, 0 + (polL l t).length ≤ polZl.length) := fun t => by rw [polL_len hl]; exact Nat.le_refl 18
  have FZ : Hid (∀ t : Value, polZl.length ≤ 0 + (polL l t).length) := fun t => by rw [polL_len hl]; exact Nat.le_refl 18
  have HO : Hid (∀ s : Value, (polL l s)[17]? = some s) := fun s => polL_hol hl
  have ST : Hid (∀ s t : Value, (polL l s).set 17 t = polL l t) := fun s t => polL_setL hl
  have W0 : Hid (Blk w.heap.size 24 (polL l s) ((w.alloc (.cells (polL l s).toArray 24)).alloc (.cells #[.int .i64 0, .int .i64 0, .int .i64 0, .int .i64 0, .int .i64 0, .int .i64 0, .int .i64 0, .int .i64 0, .int .i64 0, .int .i64 0, .int .i64 0, .int .i64 0, .int .i64 0, .int .i64 0, .int .i64 0, .int .i64 0, .int .i64 0, .slice none 0 0] 24))) := (Blk.new _ _ _).below (below_alloc _ _)
  have W1 : Hid (Blk (w.heap.size + 1) 24 polZl ((w.alloc (.cells (polL l s).toArray 24)).alloc (.cells #[.int .i64 0, .int .i64 0, .int .i64 0, .int .i64 0, .int .i64 0, .int .i64 0, .int .i64 0, .int .i64 0, .int .i64 0, .int .i64 0, .int .i64 0, .int .i64 0, .int .i64 0, .int .i64 0, .int .i64 0, .int .i64 0, .int .i64 0, .slice none 0 0] 24))) := Blk.new2 _ _ _ _
  have B0 : Hid (Below w.heap.size w ((w.alloc (.cells (polL l s).toArray 24)).alloc (.cells #[.int .i64 0, .int .i64 0, .int .i64 0, .int .i64 0, .int .i64 0, .int .i64 0, .int .i64 0, .int .i64 0, .int .i64 0, .int .i64 0, .int .i64 0, .int .i64 0, .int .i64 0, .int .i64 0, .int .i64 0, .int .i64 0, .int .i64 0, .slice none 0 0] 24))) := below_trans (below_alloc _ _) (below_alloc _ _)
  have RS : Hid (∀ w', Below w.heap.size w w' → Rd w' s (bkL hs)) := fun w' h => hr.later h
  obtain ⟨ao, cp, rfl, -, -, -⟩ := hr
  rw [bkL_len] at *
  have l1 : Hid (([] : List Value).length + (bkL hs).length ≤ maxLen) := by show _ ≤ _; rw [bkL_len]; simp only [List.length_nil]; unfold maxLen; omega
  have l2 : Hid ((([] : List Value).length + (bkL hs).length) * 8 ≤ 140737488355328) := by show _ ≤ _; rw [bkL_len]; simp only [List.length_nil]; omega
  have l3 : Hid ((bkL hs).length + 1 ≤ maxLen) := by show _ ≤ _; rw [bkL_len]; unfold maxLen; omega
  have l4 : Hid (((bkL hs).length + 1) * 8 ≤ 140737488355328) := by show _ ≤ _; rw [bkL_len]; omega
  have LN : Hid ((bkL hs ++ [Value.int .i64 (-44)]).length = hs.length + 1) := by show _ = _; simp [bkL_len]
  have LB : Hid (bkL hs ++ [Value.int .i64 (-44)] = bkL (hs ++ [-44])) := by show _ = _; simp [bkL]
  obtain ⟨N, hN⟩ : ∃ N, hs.length = N := ⟨_, rfl⟩
  have HN : Hid (N = hs.length) := hN.symm
  rw [hN] at W0 W1 B0 RS LN ⊢
  clear hl hb hN
  go_enter Tryz.func4, Tryz.ntmps4
  go_upto_region 1 with fail
  generalize ((w.alloc (.cells (polL l (.slice ao N cp)).toArray 24)).alloc (.cells #[.int .i64 0, .int .i64 0, .int .i64 0, .int .i64 0, .int .i64 0, .int .i64 0, .int .i64 0, .int .i64 0, .int .i64 0, .int .i64 0, .int .i64 0, .int .i64 0, .int .i64 0, .int .i64 0, .int .i64 0, .int .i64 0, .int .i64 0, .slice none 0 0] 24)) = w0 at *
  have c17 := W0.out.cell 17 _ (HO.out _)
  have hsz := B0.out.size
  go_upto_region 3 with (at_builtin; refine wpList_catV rfl (.tmp 4) (.tmp 6) 22 rfl 3 i0 (.int .i64 0) 8 Tryz.underlying22 hi hz0 hz1 hz2 rfl w.heap.size _ _ [] (bkL hs) (bkL_one hs) rfl (RowV.nil _ _ _) hsz rfl (RS.out _ B0.out) l1.out l2.out ?_; intro v1 w1 r1 g1)
  have X0 : Hid (Blk w.heap.size 24 (polL l (.slice ao N cp)) w1) := W0.out.grown g1 (nilOwnL _)
  have X1 : Hid (Blk (w.heap.size + 1) 24 polZl w1) := W1.out.grown g1 (nilOwnL _)
  have B1 : Hid (Below w.heap.size w w1) := B0.out.grown g1 hsz (fun k e => absurd e (nilOwnL k))
  have R1 : Hid (RowV 3 w.heap.size w1 v1 (bkL hs)) := r1
  clear r1 g1 c17 hsz W0 W1 B0 RS l1 l2
  have hsz1 := B1.out.size
  go_upto_region 4 with (at_builtin; refine wpList_pushV rfl (.tmp 8) (.tmp 9) 22 rfl 3 i0 (.int .i64 0) 8 Tryz.underlying22 hi hz0 hz1 hz2 rfl w.heap.size _ (bkL hs) _ rfl rfl R1.out hsz1 rfl l3.out l4.out ?_; intro v2 w2 r2 g2)
  obtain ⟨g, cap, rfl, hcap, hbg⟩ := rowV_some r2 LN.out
  have Y0 : Hid (Blk w.heap.size 24 (polL l (.slice ao N cp)) w2) := X0.out.grown g2 (fun e => row_ne_blkL R1.out X0.out (by decide) e)
  have Y1 : Hid (Blk (w.heap.size + 1) 24 polZl w2) := X1.out.grown g2 (fun e => row_ne_blkL R1.out X1.out (by decide) e)
  have B2 : Hid (Below w.heap.size w w2) := B1.out.grown g2 hsz1 (fun k e => by have := R1.out.block_ge e; omega)
  have R2 : Hid (RowV 3 w.heap.size w2 (.slice (some ⟨g, 0, none⟩) (N + 1) cap) (bkL (hs ++ [-44]))) := by show RowV _ _ _ _ _; rw [← LB.out]; exact r2
  clear r2 g2 hsz1 X0 X1 B1 R1 l3 l4 LN LB
  have c17 := Y0.out.cell 17 _ (HO.out _)
  have f17 := Y0.out.fz 17
  have lt17 := Y0.out.lt
  have hNc : N ≤ cap := by omega
  have Z0 : Hid (Blk w.heap.size 24 (polL l (.slice (some ⟨g, 0, none⟩) N cap)) (w2.setCell ⟨w.heap.size, 17, none⟩ (.slice (some ⟨g, 0, none⟩) N cap))) := by
    have := Y0.out.set (i := 17) (.slice (some ⟨g, 0, none⟩) N cap)
    rwa [ST.out] at this
  have Z1 : Hid (Blk (w.heap.size + 1) 24 polZl (w2.setCell ⟨w.heap.size, 17, none⟩ (.slice (some ⟨g, 0, none⟩) N cap))) := Y1.out.grown (setCell_grown _ _ _ _) (fun e => by injection e with e; omega)
  have ZR : Hid (RowV 3 w.heap.size (w2.setCell ⟨w.heap.size, 17, none⟩ (.slice (some ⟨g, 0, none⟩) N cap)) (.slice (some ⟨g, 0, none⟩) (N + 1) cap) (bkL (hs ++ [-44]))) := R2.out.kept (setCell_grown _ _ _ _) (fun g e q => row_ne_blkL R2.out Y0.out (by decide) (by rw [e, ← q]))
  have ZB : Hid (Below w.heap.size w (w2.setCell ⟨w.heap.size, 17, none⟩ (.slice (some ⟨g, 0, none⟩) N cap))) := below_row B2.out (setCell_grown _ _ _ _) (Nat.le_refl _)
  have HC : Hid (N + 1 ≤ cap) := hcap
  clear R2 B2 hcap hbg
  go_upto_region 5 with fail
  generalize w2.setCell ⟨w.heap.size, 17, none⟩ (.slice (some ⟨g, 0, none⟩) N cap) = w3 at *
  clear c17 f17 lt17 Y0 Y1
  go_wp2_with (first
  | (refine step_load rfl 24 _ rfl w.heap.size 0 rfl (polL l (.slice (some ⟨g, 0, none⟩) N cap)) _ (Blk.all Z0.out) Tryz.underlying24 rfl (SZ.out _) ?_)
  | ((with_reducible refine LoK.at_store ?_); refine step_store rfl 24 _ _ rfl (w.heap.size + 1) 0 24 polZl (polL l (.slice (some ⟨g, 0, none⟩) N cap)) rfl rfl Z1.out (FT.out _) (SZ.out _) polL_oneL ?_; intro w4 nb4 g4))
  have N4 : Blk (w.heap.size + 1) 24 (polL l (.slice (some ⟨g, 0, none⟩) N cap)) w4 := blk_whole (FZ.out _) nb4
  refine ret_blk rfl rfl (w.heap.size + 1) 24 (polL l (.slice (some ⟨g, 0, none⟩) N cap)) _ rfl N4 Tryz.underlying24 rfl (SZ.out _) ?_
  exact ⟨g, N, cap, rfl, ⟨HN.out, HC.out, ZR.out.kept g4 (fun g e q => row_ne_blkL ZR.out Z1.out (by decide) (by rw [e, ← q]))⟩, below_row ZB.out g4 (by omega)⟩
end Go.Proofs.YtgdmkcbbomfmdaaGreatDoor

namespace Go.Proofs.YtgdmkcbbomfmdaaGreatDoor
open Go.RowKit LedM PolM CoM LoM

theorem rdInt {w : World} {v : Value} {hs : List Int} (h : Rd w v (bkL hs)) : ∃ a c, v = .slice a hs.length c ∧ ∀ w', Below w.heap.size w w' → ∀ i, i < hs.length → ∃ g o, a = some ⟨g, o, none⟩ ∧ w'.cell? ⟨g, o + i, none⟩ = some (.int .i64 (hs.getD i 0)) := by
  obtain ⟨a, c, e, _, _, h3⟩ := h
  refine ⟨a, c, by rw [e, bkL_len], fun w' hb i hi => ?_⟩
  obtain ⟨g, o, e', lt, hc⟩ := h3 i (by rw [bkL_len]; exact hi)
  refine ⟨g, o, e', (hb.cell (p := ⟨g, o + i, none⟩) lt).trans (hc.trans ?_)⟩
  rw [← List.getElem?_eq_getElem, bkL_at hi]
theorem OwnH.cells {base N cap g : Nat} {w : World} {hs : List Int} (h : OwnH base w g N cap hs) : (∀ i, i < N → w.cell? ⟨g, i, none⟩ = some (.int .i64 (hs.getD i 0))) ∧ w.cell? ⟨g, N, none⟩ = some (.int .i64 (-44)) ∧ g < w.heap.size ∧ base ≤ g := by
  obtain ⟨hN, hc, r⟩ := h
  obtain ⟨a, c, e, H⟩ := rdInt r.rd
  have gl := r.block_lt (g := g) rfl
  have ge := r.block_ge (g := g) rfl
  have key : ∀ i, i < N + 1 → w.cell? ⟨g, i, none⟩ = some (.int .i64 ((hs ++ [-44]).getD i 0)) := fun i hi => by
    obtain ⟨g', o', e', hc'⟩ := H w (Below.refl _ _) i (by simp; omega)
    injection e with e1 e2 e3
    rw [e'] at e1
    injection e1 with e1
    injection e1 with e4 e5
    subst e4 e5
    rw [Nat.zero_add] at hc'
    exact hc'
  refine ⟨fun i hi => ?_, ?_, gl, ge⟩
  · have := key i (by omega)
    rwa [List.getD_eq_getElem?_getD, List.getElem?_append_left (by omega), ← List.getD_eq_getElem?_getD] at this
  · have := key N (by omega)
    rw [this, List.getD_eq_getElem?_getD, List.getElem?_append_right (by omega), hN]
    simp

set_option maxRecDepth 20000 in
set_option maxHeartbeats 2000000 in
theorem left_yes (l l' hs : List Int) (g N cap base : Nat) (s : Value) (w : World) (hl : l.length = 17) (hl' : l'.length = 17) (ho : OwnH base w g N cap hs) (hr : Rd w s (bkL hs)) (hb : hs.length ≤ 1152921504606846975) :
    Calls Tryz.prog 8 #[.agg (polL l (.slice (some ⟨g, 0, none⟩) N cap)).toArray, .agg (polL l' s).toArray] w fun e w' => e = .returned (.bool true) ∧ Below w.heap.size w w' := by
  obtain ⟨ho0, ho1, ho2, ho3⟩ := ho.cells
  obtain ⟨a, c, rfl, H⟩ := rdInt hr
  obtain ⟨hN, hcap, _⟩ := ho
  have W0 : Blk w.heap.size 24 (polL l (.slice (some ⟨g, 0, none⟩) N cap)) ((w.alloc (.cells (polL l (.slice (some ⟨g, 0, none⟩) N cap)).toArray 24)).alloc (.cells (polL l' (.slice a hs.length c)).toArray 24)) := (Blk.new _ _ _).below (below_alloc _ _)
  have W1 : Blk (w.heap.size + 1) 24 (polL l' (.slice a hs.length c)) ((w.alloc (.cells (polL l (.slice (some ⟨g, 0, none⟩) N cap)).toArray 24)).alloc (.cells (polL l' (.slice a hs.length c)).toArray 24)) := Blk.new2 _ _ _ _
  have B0 : Below w.heap.size w ((w.alloc (.cells (polL l (.slice (some ⟨g, 0, none⟩) N cap)).toArray 24)).alloc (.cells (polL l' (.slice a hs.length c)).toArray 24)) := below_trans (below_alloc _ _) (below_alloc _ _)
  have c0 := W0.cell 17 _ (polL_hol hl)
  have c1 := W1.cell 17 _ (polL_hol hl')
  have BB : Hid (Below w.heap.size w ((w.alloc (.cells (polL l (.slice (some ⟨g, 0, none⟩) N cap)).toArray 24)).alloc (.cells (polL l' (.slice a hs.length c)).toArray 24))) := B0
  have CQ : Hid (∀ i, i < N → ((w.alloc (.cells (polL l (.slice (some ⟨g, 0, none⟩) N cap)).toArray 24)).alloc (.cells (polL l' (.slice a hs.length c)).toArray 24)).cell? ⟨g, i, none⟩ = some (.int .i64 (hs.getD i 0))) := fun i hi => (B0.cell (p := ⟨g, i, none⟩) ho2).trans (ho0 i hi)
  have CM : ((w.alloc (.cells (polL l (.slice (some ⟨g, 0, none⟩) N cap)).toArray 24)).alloc (.cells (polL l' (.slice a hs.length c)).toArray 24)).cell? ⟨g, N, none⟩ = some (.int .i64 (-44)) := (B0.cell (p := ⟨g, N, none⟩) ho2).trans ho1
  have CP : Hid (∀ i, i < N → ∃ g' o, a = some ⟨g', o, none⟩ ∧ ((w.alloc (.cells (polL l (.slice (some ⟨g, 0, none⟩) N cap)).toArray 24)).alloc (.cells (polL l' (.slice a hs.length c)).toArray 24)).cell? ⟨g', o + i, none⟩ = some (.int .i64 (hs.getD i 0))) := fun i hi => H _ B0 i (by omega)
  rw [← hN] at hb c0 c1 CM BB CQ CP ⊢
  clear H ho0 ho1 ho2 ho3 hr W0 W1 B0 hN hl hl'
  have wn : IntKind.i64.wrap ((N : Int) + 1) = (N : Int) + 1 := by rw [IntKind.wrap_i64]; omega
  have nn : ((N : Int) != (N : Int)) = false := by simp
  have hcap2 : ((N : Int) + 1) ≤ (cap : Int) := by omega
  go_enter Tryz.func8, Tryz.ntmps8
  go_upto_region 1 with fail
  generalize ((w.alloc (.cells (polL l (.slice (some ⟨g, 0, none⟩) N cap)).toArray 24)).alloc (.cells (polL l' (.slice a N c)).toArray 24)) = w0 at *
  go_wp2_with fail
  go_loopw [7] (fun vk wr => ∃ k n : Nat, vk = .int .i64 (k : Int) ∧ k ≤ N ∧ wr = w0.drewN n) (fun vk _ => N - (intOf vk).toNat)
  case atStart => exact ⟨0, 0, rfl, by omega, rfl⟩
  case round =>
    obtain ⟨k, n, rfl, hk, rfl⟩ := hrel
    by_cases hlt : (k : Int) < (N : Int)
    · have a0 := CQ.out k (by omega)
      obtain ⟨g', o', rfl, b0⟩ := CP.out k (by omega)
      generalize hs.getD k 0 = x at *
      have q0 : (x != x) = false := by simp
      have k1 : (k : Int) < (N : Int) + 1 := by omega
      have k0 : (0 : Int) ≤ (k : Int) := by omega
      go_wp2_with fail
      go_quiet (fail)
      go_wp2_with fail
      go_roundw
      case rel => exact ⟨k + 1, _, by go_num, by omega, rfl⟩
      case measure => simp [intOf]; omega
    · go_wp2_with fail
      go_ret
      exact ⟨rfl, below_drewN BB.out n⟩
end Go.Proofs.YtgdmkcbbomfmdaaGreatDoor

namespace Go.Proofs.YtgdmkcbbomfmdaaGreatDoor
open Go.RowKit IntM CalM LedM CoM LoM PolM

theorem lplanF_len {r : Int} {pf : Nat → Int → Int → Int} {due : Nat → Option Int} : ∀ (m k : Nat) (b : Int) (rs : List (Int × Int × Int)), planF r pf due m k b = some rs → rs.length ≤ m
  | 0, k, b, rs, h => by rw [planF_none] at h; obtain rfl := Option.some.inj h; simp
  | m + 1, k, b, rs, h => by
    by_cases hb : b = 0
    · subst hb; rw [planF_zero] at h; obtain rfl := Option.some.inj h; simp
    · by_cases hz : mon b r = 0 ∧ pf (k + 1) b (mon b r) = 0
      · rw [planF_skip hb hz] at h
        have := lplanF_len m (k + 1) b rs h; omega
      · cases hd : due (k + 1) with
        | none => rw [planF_no hb hz hd] at h; cases h
        | some d =>
          rw [planF_row hb hz hd] at h
          cases hr : planF r pf due m (k + 1) (b - pf (k + 1) b (mon b r)) with
          | none => rw [hr] at h; cases h
          | some rs' =>
            rw [hr] at h
            obtain rfl := Option.some.inj h
            have := lplanF_len m (k + 1) _ rs' hr
            simp; omega
theorem lplanO_len (kind P r n start rule : Int) (xs : List Int) : ((planO kind P r n start rule xs).getD []).length ≤ 120 := by
  unfold planO
  by_cases h : validB kind P r n start rule = true ∧ xs.length ≤ 64
  · rw [if_pos h]
    obtain ⟨_, _, _, _, hn, _⟩ := valid_parts h.1
    cases hp : planF r (partI kind P n.toNat (payN P r n.toNat)) (dueT start rule xs) n.toNat 0 P with
    | none => simp
    | some rs => have := lplanF_len _ _ _ _ hp; simp; omega
  · rw [if_neg h]; simp
/-- Is the loan opened? -/
def opY (id k P r n s u : Int) (l hs : List Int) : Prop := ev (chk l hs) = 0 ∧ opV id k P r n s u hs = 0
noncomputable instance (id k P r n s u : Int) (l hs : List Int) : Decidable (opY id k P r n s u l hs) := Classical.propDecidable _
/-- The loan that Open answers, but for its plan; its plan's rows; its error. -/
noncomputable def opL (id k P r n s u : Int) (l hs : List Int) : Lo := if opY id k P r n s u l hs then opnL id k P r n s u (.slice none 0 0) else lo0
noncomputable def opR (id k P r n s u : Int) (l hs : List Int) : List (Int × Int × Int) := if opY id k P r n s u l hs then (planO k P r n s u hs).getD [] else []
noncomputable def opE (id k P r n s u : Int) (l hs : List Int) : Int := if ev (chk l hs) = 0 then opV id k P r n s u hs else ev (chk l hs)
theorem opR_len (id k P r n s u : Int) (l hs : List Int) : (opR id k P r n s u l hs).length ≤ 120 := by
  unfold opR; split
  · exact lplanO_len _ _ _ _ _ _ _
  · simp
theorem opL_bk (id k P r n s u : Int) (l hs : List Int) : ∀ i, i64 ((opL id k P r n s u l hs).bk.getD i 0) := by
  unfold opL
  split
  · rename_i h
    have ht := opK_tm h.2
    unfold tmOk at ht
    simp only [Bool.and_eq_true, decide_eq_true_eq] at ht
    intro i
    show i64 (([0, P, 0, 0, 0, 0, -P, 0, 0, 0, 0, 0] : List Int).getD i 0)
    unfold i64
    match i with
    | 0 | 1 | 2 | 3 | 4 | 5 | 6 | 7 | 8 | 9 | 10 | 11 => simp <;> omega
    | i + 12 => simp
  · intro i
    show i64 (([] : List Int).getD i 0)
    unfold i64; simp
/-- The answer in one form. -/
def OneAns (id k P r n s u : Int) (l hs : List Int) (w : World) (e : Ending) (w' : World) : Prop :=
  ∃ a N c, e = .returned (.agg (ouL { opL id k P r n s u l hs with pl := .slice a N c } [] (.slice none 0 0) (opE id k P r n s u l hs)).toArray) ∧ RdX w' (.slice a N c) (opR id k P r n s u l hs) ∧ Below w.heap.size w w'
theorem OpAns.one {id k P r n s u : Int} {l hs : List Int} {w w' : World} {e : Ending} (h : OpAns id k P r n s u l hs w e w') : OneAns id k P r n s u l hs w e w' := by
  obtain ⟨L2, er, ex, rfl, bb, h⟩ := h
  rcases h with ⟨he, h1, h2, rs, v, hp, rfl, px, hx⟩ | ⟨he, rfl, hr⟩
  · have hy : opY id k P r n s u l hs := ⟨h1, h2⟩
    have rd := px.rd (w := w') (fun q hq => (hx q hq).2)
    have e1 : opR id k P r n s u l hs = rs := by unfold opR; rw [if_pos hy, hp]; rfl
    have e2 : opE id k P r n s u l hs = er := by unfold opE; rw [if_pos h1, h2, he]
    have e3 : opL id k P r n s u l hs = opnL id k P r n s u (.slice none 0 0) := if_pos hy
    have hv := rd
    obtain ⟨a, c, rfl, _⟩ := hv
    unfold OneAns
    rw [e1, e2, e3]
    exact ⟨a, rs.length, c, rfl, rd, bb⟩
  · have hn : ¬ opY id k P r n s u l hs := fun hy => he (by rw [hr, if_pos hy.1]; exact hy.2)
    have e1 : opR id k P r n s u l hs = [] := if_neg hn
    have e2 : opE id k P r n s u l hs = er := hr.symm
    have e3 : opL id k P r n s u l hs = lo0 := if_neg hn
    unfold OneAns
    rw [e1, e2, e3]
    exact ⟨none, 0, 0, rfl, ⟨none, 0, rfl, fun i hi => absurd hi (by simp)⟩, bb⟩
/-- Holidays of one's own, read. -/
theorem OwnH.rd {base N cap g : Nat} {w : World} {hs : List Int} (h : OwnH base w g N cap hs) : Rd w (.slice (some ⟨g, 0, none⟩) N cap) (bkL hs) := by
  obtain ⟨c0, _, gl, _⟩ := h.cells
  refine ⟨_, cap, by rw [bkL_len, ← h.1], by rw [bkL_len, ← h.1]; have := h.2.1; omega, (fun e => by cases e), fun i hi => ⟨g, 0, rfl, gl, ?_⟩⟩
  rw [bkL_len, ← h.1] at hi
  rw [Nat.zero_add, c0 i hi, ← List.getElem?_eq_getElem, bkL_at (by rw [← h.1]; exact hi)]
theorem OwnH.later {base N cap g : Nat} {w w' : World} {hs : List Int} (h : OwnH base w g N cap hs) (hb : Below w.heap.size w w') : OwnH base w' g N cap hs := ⟨h.1, h.2.1, h.2.2.kept (row := none) ⟨hb.os, hb.tape, hb.output, hb.size, fun k hk _ => hb.block k hk⟩ (fun _ _ => by simp)⟩
end Go.Proofs.YtgdmkcbbomfmdaaGreatDoor
