/-
  Ours: the walk of LoanOpens (gen_lowlk.py).
-/
import Derived.Test.YtgdmkcbbomfmdaaGreatDoorLoCat
import Derived.Test.YtgdmkcbbomfmdaaGreatDoorPolChk
import Derived.Deep.Cut
import Derived.Deep.CutRange
import Derived.Deep.QuietTactic
import Derived.BigQuiet
import Derived.Test.YtgdmkcbbomfmdaaGreatDoorLoROp
import Derived.Test.YtgdmkcbbomfmdaaGreatDoorLoRw
import Derived.Test.YtgdmkcbbomfmdaaGreatDoorLoSmL
import Derived.Deep.RegionHeld
import Derived.Deep.MidRow
namespace Go.Proofs.YtgdmkcbbomfmdaaGreatDoor
open Go.RowKit LedM PolM CoM LoM

theorem row_ne_blkL {e T : TypeId} {base k n g : Nat} {w : World} {v : Value} {xs cs : List Value} (h : w.ownsRow base e k v n xs) (hb : Blk g T cs w) (hne : e ≠ T) : v.ownBlock ≠ some g := by
  intro hg
  rcases h.2 with ⟨rfl, _⟩ | ⟨g1, cap, cur, rfl, _, hh, _⟩
  · simp [Value.ownBlock] at hg
  obtain rfl : g1 = g := by simpa [Value.ownBlock] using hg
  unfold Blk at hb
  rw [hh] at hb
  injection hb with hb
  injection hb with h1 h2
  exact hne h2
def polZl : List Value := polL [0, 0, 0, 0, 0, 0, 0, 0, 0, 0, 0, 0, 0, 0, 0, 0, 0] (.slice none 0 0)
theorem polL_oneL {l : List Int} {a : Option Addr} {n c : Nat} : ∀ v ∈ polL l (.slice a n c), v.oneCell' = true := fun v hv => by
  rcases List.mem_append.1 hv with h | h
  · exact bkL_one l v h
  · simp at h; subst h; rfl
theorem polL_setL {l : List Int} {s t : Value} (hl : l.length = 17) : (polL l s).set 17 t = polL l t := by
  rw [polL, List.set_append_right _ _ (by rw [bkL_len]; omega), bkL_len, hl]; rfl
/-- Holidays and the mark behind them, in a block of their own. -/
def OwnH (base : Nat) (w : World) (g N cap : Nat) (hs : List Int) : Prop := N = hs.length ∧ N + 1 ≤ cap ∧ RowV 3 base w (.slice (some ⟨g, 0, none⟩) (N + 1) cap) (bkL (hs ++ [-44]))
/-- What own answers. -/
def LOwnAns (l hs : List Int) (w : World) (e : Ending) (w' : World) : Prop := ∃ g N cap, e = .returned (.agg (polL l (.slice (some ⟨g, 0, none⟩) N cap)).toArray) ∧ OwnH w.heap.size w' g N cap hs ∧ Below w.heap.size w w'
theorem rowV_some {e : TypeId} {base n : Nat} {w : World} {v : Value} {vs : List Value} (h : RowV e base w v vs) (hn : vs.length = n + 1) : ∃ g cap, v = .slice (some ⟨g, 0, none⟩) (n + 1) cap ∧ n + 1 ≤ cap ∧ base ≤ g := by
  unfold RowV at h
  rw [hn] at h
  rcases h.2 with ⟨_, h0⟩ | ⟨g, cap, cur, rfl, hb, _, hc, _⟩
  · omega
  · exact ⟨g, cap, rfl, hc, hb⟩
theorem infoInt3 : (Tryz.prog.info? 3).map (fun i => (i.zero, i.size, i.bytes)) = some (some (.int .i64 0), 1, 8) := by kernel_rfl
theorem nilOwnL (g : Nat) : (Value.slice none 0 0).ownBlock ≠ some g := fun h => by cases h

set_option maxRecDepth 20000 in
set_option maxHeartbeats 2000000 in
theorem lown_at (l hs : List Int) (s : Value) (w : World) (hl : l.length = 17) (hr : Rd w s (bkL hs)) (hb : hs.length * 8 ≤ 140737488355320) :
    Calls Tryz.prog 4 #[.agg (polL l s).toArray] w (LOwnAns l hs w) := by
  obtain ⟨i0, hi, hz0, hz1, hz2⟩ := info_parts infoInt3
  have SZ : Hid (∀ t : Value, (Tryz.prog.info? 24).map (·.size) = some (polL l t).length) := fun t => by show _ = _; rw [polL_len hl]; kernel_rfl
  have FT : Hid (∀ t : Value, 0 + (polL l t).length ≤ polZl.length) := fun t => by rw [polL_len hl]; exact Nat.le_refl 18
  have FZ : Hid (∀ t : Value, polZl.length ≤ 0 + (polL l t).length) := fun t => by rw [polL_len hl]; exact Nat.le_refl 18
  have HO : Hid (∀ s : Value, (polL l s)[17]? = some s) := fun s => polL_hol hl
  have ST : Hid (∀ s t : Value, (polL l s).set 17 t = polL l t) := fun s t => polL_setL hl
  have W0 : Hid (Blk w.heap.size 24 (polL l s) ((w.alloc (.cells (polL l s).toArray 24)).alloc (.cells #[.int .i64 0, .int .i64 0, .int .i64 0, .int .i64 0, .int .i64 0, .int .i64 0, .int .i64 0, .int .i64 0, .int .i64 0, .int .i64 0, .int .i64 0, .int .i64 0, .int .i64 0, .int .i64 0, .int .i64 0, .int .i64 0, .int .i64 0, .slice none 0 0] 24))) := (Blk.new _ _ _).below (below_alloc _ _)
  have W1 : Hid (Blk (w.heap.size + 1) 24 polZl ((w.alloc (.cells (polL l s).toArray 24)).alloc (.cells #[.int .i64 0, .int .i64 0, .int .i64 0, .int .i64 0, .int .i64 0, .int .i64 0, .int .i64 0, .int .i64 0, .int .i64 0, .int .i64 0, .int .i64 0, .int .i64 0, .int .i64 0, .int .i64 0, .int .i64 0, .int .i64 0, .int .i64 0, .slice none 0 0] 24))) := Blk.new2 _ _ _ _
  have B0 : Hid (Below w.heap.size w ((w.alloc (.cells (polL l s).toArray 24)).alloc (.cells #[.int .i64 0, .int .i64 0, .int .i64 0, .int .i64 0, .int .i64 0, .int .i64 0, .int .i64 0, .int .i64 0, .int .i64 0, .int .i64 0, .int .i64 0, .int .i64 0, .int .i64 0, .int .i64 0, .int .i64 0, .int .i64 0, .int .i64 0, .slice none 0 0] 24))) := below_trans (below_alloc _ _) (below_alloc _ _)
  have RS : Hid (∀ w', Below w.heap.size w w' → Rd w' s (bkL hs)) := fun w' h => hr.later h
  obtain ⟨ao, cp, rfl, -, -, -⟩ := hr
  rw [bkL_len] at *
  have l1 : Hid (([] : List Value).length + (bkL hs).length ≤ maxLen) := by show _ ≤ _; rw [bkL_len]; simp only [List.length_nil]; unfold maxLen; omega
  have l2 : Hid ((([] : List Value).length + (bkL hs).length) * 8 ≤ 140737488355328) := by show _ ≤ _; rw [bkL_len]; simp only [List.length_nil]; omega
  have l3 : Hid ((bkL hs).length + 1 ≤ maxLen) := by show _ ≤ _; rw [bkL_len]; unfold maxLen; omega
  have l4 : Hid (((bkL hs).length + 1) * 8 ≤ 140737488355328) := by show _ ≤ _; rw [bkL_len]; omega
  have LN : Hid ((bkL hs ++ [Value.int .i64 (-44)]).length = hs.length + 1) := by show _ = _; simp [bkL_len]
  have LB : Hid (bkL hs ++ [Value.int .i64 (-44)] = bkL (hs ++ [-44])) := by show _ = _; simp [bkL]
  obtain ⟨N, hN⟩ : ∃ N, hs.length = N := ⟨_, rfl⟩
  have HN : Hid (N = hs.length) := hN.symm
  rw [hN] at W0 W1 B0 RS LN ⊢
  clear hl hb hN
  go_enter Tryz.func4, Tryz.ntmps4
  go_upto_region 1 with fail
  generalize ((w.alloc (.cells (polL l (.slice ao N cp)).toArray 24)).alloc (.cells #[.int .i64 0, .int .i64 0, .int .i64 0, .int .i64 0, .int .i64 0, .int .i64 0, .int .i64 0, .int .i64 0, .int .i64 0, .int .i64 0, .int .i64 0, .int .i64 0, .int .i64 0, .int .i64 0, .int .i64 0, .int .i64 0, .int .i64 0, .slice none 0 0] 24)) = w0 at *
  have c17 := W0.out.cell 17 _ (HO.out _)
  have hsz := B0.out.size
  go_upto_region 3 with (at_builtin; refine wpList_catV rfl (.tmp 4) (.tmp 6) 22 rfl 3 i0 (.int .i64 0) 8 Tryz.underlying22 hi hz0 hz1 hz2 rfl w.heap.size _ _ [] (bkL hs) (bkL_one hs) rfl (RowV.nil _ _ _) hsz rfl (RS.out _ B0.out) l1.out l2.out ?_; intro v1 w1 r1 g1)
  have X0 : Hid (Blk w.heap.size 24 (polL l (.slice ao N cp)) w1) := W0.out.grown g1 (nilOwnL _)
  have X1 : Hid (Blk (w.heap.size + 1) 24 polZl w1) := W1.out.grown g1 (nilOwnL _)
  have B1 : Hid (Below w.heap.size w w1) := B0.out.grown g1 hsz (fun k e => absurd e (nilOwnL k))
  have R1 : Hid (RowV 3 w.heap.size w1 v1 (bkL hs)) := r1
  clear r1 g1 c17 hsz W0 W1 B0 RS l1 l2
  have hsz1 := B1.out.size
  go_upto_region 4 with (at_builtin; refine wpList_pushV rfl (.tmp 8) (.tmp 9) 22 rfl 3 i0 (.int .i64 0) 8 Tryz.underlying22 hi hz0 hz1 hz2 rfl w.heap.size _ (bkL hs) _ rfl rfl R1.out hsz1 rfl l3.out l4.out ?_; intro v2 w2 r2 g2)
  obtain ⟨g, cap, rfl, hcap, hbg⟩ := rowV_some r2 LN.out
  have Y0 : Hid (Blk w.heap.size 24 (polL l (.slice ao N cp)) w2) := X0.out.grown g2 (fun e => row_ne_blkL R1.out X0.out (by decide) e)
  have Y1 : Hid (Blk (w.heap.size + 1) 24 polZl w2) := X1.out.grown g2 (fun e => row_ne_blkL R1.out X1.out (by decide) e)
  have B2 : Hid (Below w.heap.size w w2) := B1.out.grown g2 hsz1 (fun k e => by have := R1.out.block_ge e; omega)
  have R2 : Hid (RowV 3 w.heap.size w2 (.slice (some ⟨g, 0, none⟩) (N + 1) cap) (bkL (hs ++ [-44]))) := by show RowV _ _ _ _ _; rw [← LB.out]; exact r2
  clear r2 g2 hsz1 X0 X1 B1 R1 l3 l4 LN LB
  have c17 := Y0.out.cell 17 _ (HO.out _)
  have f17 := Y0.out.fz 17
  have lt17 := Y0.out.lt
  have hNc : N ≤ cap := by omega
  have Z0 : Hid (Blk w.heap.size 24 (polL l (.slice (some ⟨g, 0, none⟩) N cap)) (w2.setCell ⟨w.heap.size, 17, none⟩ (.slice (some ⟨g, 0, none⟩) N cap))) := by
    have := Y0.out.set (i := 17) (.slice (some ⟨g, 0, none⟩) N cap)
    rwa [ST.out] at this
  have Z1 : Hid (Blk (w.heap.size + 1) 24 polZl (w2.setCell ⟨w.heap.size, 17, none⟩ (.slice (some ⟨g, 0, none⟩) N cap))) := Y1.out.grown (setCell_grown _ _ _ _) (fun e => by injection e with e; omega)
  have ZR : Hid (RowV 3 w.heap.size (w2.setCell ⟨w.heap.size, 17, none⟩ (.slice (some ⟨g, 0, none⟩) N cap)) (.slice (some ⟨g, 0, none⟩) (N + 1) cap) (bkL (hs ++ [-44]))) := R2.out.kept (setCell_grown _ _ _ _) (fun g e q => row_ne_blkL R2.out Y0.out (by decide) (by rw [e, ← q]))
  have ZB : Hid (Below w.heap.size w (w2.setCell ⟨w.heap.size, 17, none⟩ (.slice (some ⟨g, 0, none⟩) N cap))) := below_row B2.out (setCell_grown _ _ _ _) (Nat.le_refl _)
  have HC : Hid (N + 1 ≤ cap) := hcap
  clear R2 B2 hcap hbg
  go_upto_region 5 with fail
  generalize w2.setCell ⟨w.heap.size, 17, none⟩ (.slice (some ⟨g, 0, none⟩) N cap) = w3 at *
  clear c17 f17 lt17 Y0 Y1
  go_wp2_with (first
  | (refine step_load rfl 24 _ rfl w.heap.size 0 rfl (polL l (.slice (some ⟨g, 0, none⟩) N cap)) _ (Blk.all Z0.out) Tryz.underlying24 rfl (SZ.out _) ?_)
  | ((with_reducible refine LoK.at_store ?_); refine step_store rfl 24 _ _ rfl (w.heap.size + 1) 0 24 polZl (polL l (.slice (some ⟨g, 0, none⟩) N cap)) rfl rfl Z1.out (FT.out _) (SZ.out _) polL_oneL ?_; intro w4 nb4 g4))
  have N4 : Blk (w.heap.size + 1) 24 (polL l (.slice (some ⟨g, 0, none⟩) N cap)) w4 := blk_whole (FZ.out _) nb4
  refine ret_blk rfl rfl (w.heap.size + 1) 24 (polL l (.slice (some ⟨g, 0, none⟩) N cap)) _ rfl N4 Tryz.underlying24 rfl (SZ.out _) ?_
  exact ⟨g, N, cap, rfl, ⟨HN.out, HC.out, ZR.out.kept g4 (fun g e q => row_ne_blkL ZR.out Z1.out (by decide) (by rw [e, ← q]))⟩, below_row ZB.out g4 (by omega)⟩
end Go.Proofs.YtgdmkcbbomfmdaaGreatDoor

namespace Go.Proofs.YtgdmkcbbomfmdaaGreatDoor
open Go.RowKit LedM PolM CoM LoM

theorem rdInt {w : World} {v : Value} {hs : List Int} (h : Rd w v (bkL hs)) : ∃ a c, v = .slice a hs.length c ∧ ∀ w', Below w.heap.size w w' → ∀ i, i < hs.length → ∃ g o, a = some ⟨g, o, none⟩ ∧ w'.cell? ⟨g, o + i, none⟩ = some (.int .i64 (hs.getD i 0)) := by
  obtain ⟨a, c, e, _, _, h3⟩ := h
  refine ⟨a, c, by rw [e, bkL_len], fun w' hb i hi => ?_⟩
  obtain ⟨g, o, e', lt, hc⟩ := h3 i (by rw [bkL_len]; exact hi)
  refine ⟨g, o, e', (hb.cell (p := ⟨g, o + i, none⟩) lt).trans (hc.trans ?_)⟩
  rw [← List.getElem?_eq_getElem, bkL_at hi]
theorem OwnH.cells {base N cap g : Nat} {w : World} {hs : List Int} (h : OwnH base w g N cap hs) : (∀ i, i < N → w.cell? ⟨g, i, none⟩ = some (.int .i64 (hs.getD i 0))) ∧ w.cell? ⟨g, N, none⟩ = some (.int .i64 (-44)) ∧ g < w.heap.size ∧ base ≤ g := by
  obtain ⟨hN, hc, r⟩ := h
  obtain ⟨a, c, e, H⟩ := rdInt r.rd
  have gl := r.block_lt (g := g) rfl
  have ge := r.block_ge (g := g) rfl
  have key : ∀ i, i < N + 1 → w.cell? ⟨g, i, none⟩ = some (.int .i64 ((hs ++ [-44]).getD i 0)) := fun i hi => by
    obtain ⟨g', o', e', hc'⟩ := H w (Below.refl _ _) i (by simp; omega)
    injection e with e1 e2 e3
    rw [e'] at e1
    injection e1 with e1
    injection e1 with e4 e5
    subst e4 e5
    rw [Nat.zero_add] at hc'
    exact hc'
  refine ⟨fun i hi => ?_, ?_, gl, ge⟩
  · have := key i (by omega)
    rwa [List.getD_eq_getElem?_getD, List.getElem?_append_left (by omega), ← List.getD_eq_getElem?_getD] at this
  · have := key N (by omega)
    rw [this, List.getD_eq_getElem?_getD, List.getElem?_append_right (by omega), hN]
    simp

set_option maxRecDepth 20000 in
set_option maxHeartbeats 2000000 in
theorem left_yes (l l' hs : List Int) (g N cap base : Nat) (s : Value) (w : World) (hl : l.length = 17) (hl' : l'.length = 17) (ho : OwnH base w g N cap hs) (hr : Rd w s (bkL hs)) (hb : hs.length ≤ 1152921504606846975) :
    Calls Tryz.prog 8 #[.agg (polL l (.slice (some ⟨g, 0, none⟩) N cap)).toArray, .agg (polL l' s).toArray] w fun e w' => e = .returned (.bool true) ∧ Below w.heap.size w w' := by
  obtain ⟨ho0, ho1, ho2, ho3⟩ := ho.cells
  obtain ⟨a, c, rfl, H⟩ := rdInt hr
  obtain ⟨hN, hcap, _⟩ := ho
  have W0 : Blk w.heap.size 24 (polL l (.slice (some ⟨g, 0, none⟩) N cap)) ((w.alloc (.cells (polL l (.slice (some ⟨g, 0, none⟩) N cap)).toArray 24)).alloc (.cells (polL l' (.slice a hs.length c)).toArray 24)) := (Blk.new _ _ _).below (below_alloc _ _)
  have W1 : Blk (w.heap.size + 1) 24 (polL l' (.slice a hs.length c)) ((w.alloc (.cells (polL l (.slice (some ⟨g, 0, none⟩) N cap)).toArray 24)).alloc (.cells (polL l' (.slice a hs.length c)).toArray 24)) := Blk.new2 _ _ _ _
  have B0 : Below w.heap.size w ((w.alloc (.cells (polL l (.slice (some ⟨g, 0, none⟩) N cap)).toArray 24)).alloc (.cells (polL l' (.slice a hs.length c)).toArray 24)) := below_trans (below_alloc _ _) (below_alloc _ _)
  have c0 := W0.cell 17 _ (polL_hol hl)
  have c1 := W1.cell 17 _ (polL_hol hl')
  have BB : Hid (Below w.heap.size w ((w.alloc (.cells (polL l (.slice (some ⟨g, 0, none⟩) N cap)).toArray 24)).alloc (.cells (polL l' (.slice a hs.length c)).toArray 24))) := B0
  have CQ : Hid (∀ i, i < N → ((w.alloc (.cells (polL l (.slice (some ⟨g, 0, none⟩) N cap)).toArray 24)).alloc (.cells (polL l' (.slice a hs.length c)).toArray 24)).cell? ⟨g, i, none⟩ = some (.int .i64 (hs.getD i 0))) := fun i hi => (B0.cell (p := ⟨g, i, none⟩) ho2).trans (ho0 i hi)
  have CM : ((w.alloc (.cells (polL l (.slice (some ⟨g, 0, none⟩) N cap)).toArray 24)).alloc (.cells (polL l' (.slice a hs.length c)).toArray 24)).cell? ⟨g, N, none⟩ = some (.int .i64 (-44)) := (B0.cell (p := ⟨g, N, none⟩) ho2).trans ho1
  have CP : Hid (∀ i, i < N → ∃ g' o, a = some ⟨g', o, none⟩ ∧ ((w.alloc (.cells (polL l (.slice (some ⟨g, 0, none⟩) N cap)).toArray 24)).alloc (.cells (polL l' (.slice a hs.length c)).toArray 24)).cell? ⟨g', o + i, none⟩ = some (.int .i64 (hs.getD i 0))) := fun i hi => H _ B0 i (by omega)
  rw [← hN] at hb c0 c1 CM BB CQ CP ⊢
  clear H ho0 ho1 ho2 ho3 hr W0 W1 B0 hN hl hl'
  have wn : IntKind.i64.wrap ((N : Int) + 1) = (N : Int) + 1 := by rw [IntKind.wrap_i64]; omega
  have nn : ((N : Int) != (N : Int)) = false := by simp
  have hcap2 : ((N : Int) + 1) ≤ (cap : Int) := by omega
  go_enter Tryz.func8, Tryz.ntmps8
  go_upto_region 1 with fail
  generalize ((w.alloc (.cells (polL l (.slice (some ⟨g, 0, none⟩) N cap)).toArray 24)).alloc (.cells (polL l' (.slice a N c)).toArray 24)) = w0 at *
  go_wp2_with fail
  go_loopw [7] (fun vk wr => ∃ k n : Nat, vk = .int .i64 (k : Int) ∧ k ≤ N ∧ wr = w0.drewN n) (fun vk _ => N - (intOf vk).toNat)
  case atStart => exact ⟨0, 0, rfl, by omega, rfl⟩
  case round =>
    obtain ⟨k, n, rfl, hk, rfl⟩ := hrel
    by_cases hlt : (k : Int) < (N : Int)
    · have a0 := CQ.out k (by omega)
      obtain ⟨g', o', rfl, b0⟩ := CP.out k (by omega)
      generalize hs.getD k 0 = x at *
      have q0 : (x != x) = false := by simp
      have k1 : (k : Int) < (N : Int) + 1 := by omega
      have k0 : (0 : Int) ≤ (k : Int) := by omega
      go_wp2_with fail
      go_quiet (fail)
      go_wp2_with fail
      go_roundw
      case rel => exact ⟨k + 1, _, by go_num, by omega, rfl⟩
      case measure => simp [intOf]; omega
    · go_wp2_with fail
      go_ret
      exact ⟨rfl, below_drewN BB.out n⟩
end Go.Proofs.YtgdmkcbbomfmdaaGreatDoor

namespace Go.Proofs.YtgdmkcbbomfmdaaGreatDoor
open Go.RowKit IntM CalM LedM CoM LoM PolM

theorem lplanF_len {r : Int} {pf : Nat → Int → Int → Int} {due : Nat → Option Int} : ∀ (m k : Nat) (b : Int) (rs : List (Int × Int × Int)), planF r pf due m k b = some rs → rs.length ≤ m
  | 0, k, b, rs, h => by rw [planF_none] at h; obtain rfl := Option.some.inj h; simp
  | m + 1, k, b, rs, h => by
    by_cases hb : b = 0
    · subst hb; rw [planF_zero] at h; obtain rfl := Option.some.inj h; simp
    · by_cases hz : mon b r = 0 ∧ pf (k + 1) b (mon b r) = 0
      · rw [planF_skip hb hz] at h
        have := lplanF_len m (k + 1) b rs h; omega
      · cases hd : due (k + 1) with
        | none => rw [planF_no hb hz hd] at h; cases h
        | some d =>
          rw [planF_row hb hz hd] at h
          cases hr : planF r pf due m (k + 1) (b - pf (k + 1) b (mon b r)) with
          | none => rw [hr] at h; cases h
          | some rs' =>
            rw [hr] at h
            obtain rfl := Option.some.inj h
            have := lplanF_len m (k + 1) _ rs' hr
            simp; omega
theorem lplanO_len (kind P r n start rule : Int) (xs : List Int) : ((planO kind P r n start rule xs).getD []).length ≤ 120 := by
  unfold planO
  by_cases h : validB kind P r n start rule = true ∧ xs.length ≤ 64
  · rw [if_pos h]
    obtain ⟨_, _, _, _, hn, _⟩ := valid_parts h.1
    cases hp : planF r (partI kind P n.toNat (payN P r n.toNat)) (dueT start rule xs) n.toNat 0 P with
    | none => simp
    | some rs => have := lplanF_len _ _ _ _ hp; simp; omega
  · rw [if_neg h]; simp
/-- Is the loan opened? -/
def opY (id k P r n s u : Int) (l hs : List Int) : Prop := ev (chk l hs) = 0 ∧ opV id k P r n s u hs = 0
noncomputable instance (id k P r n s u : Int) (l hs : List Int) : Decidable (opY id k P r n s u l hs) := Classical.propDecidable _
/-- The loan that Open answers, but for its plan; its plan's rows; its error. -/
noncomputable def opL (id k P r n s u : Int) (l hs : List Int) : Lo := if opY id k P r n s u l hs then opnL id k P r n s u (.slice none 0 0) else lo0
noncomputable def opR (id k P r n s u : Int) (l hs : List Int) : List (Int × Int × Int) := if opY id k P r n s u l hs then (planO k P r n s u hs).getD [] else []
noncomputable def opE (id k P r n s u : Int) (l hs : List Int) : Int := if ev (chk l hs) = 0 then opV id k P r n s u hs else ev (chk l hs)
theorem opR_len (id k P r n s u : Int) (l hs : List Int) : (opR id k P r n s u l hs).length ≤ 120 := by
  unfold opR; split
  · exact lplanO_len _ _ _ _ _ _ _
  · simp
theorem opL_bk (id k P r n s u : Int) (l hs : List Int) : ∀ i, i64 ((opL id k P r n s u l hs).bk.getD i 0) := by
  unfold opL
  split
  · rename_i h
    have ht := opK_tm h.2
    unfold tmOk at ht
    simp only [Bool.and_eq_true, decide_eq_true_eq] at ht
    intro i
    show i64 (([0, P, 0, 0, 0, 0, -P, 0, 0, 0, 0, 0] : List Int).getD i 0)
    unfold i64
    match i with
    | 0 | 1 | 2 | 3 | 4 | 5 | 6 | 7 | 8 | 9 | 10 | 11 => simp <;> omega
    | i + 12 => simp
  · intro i
    show i64 (([] : List Int).getD i 0)
    unfold i64; simp
/-- The answer in one form. -/
def OneAns (id k P r n s u : Int) (l hs : List Int) (w : World) (e : Ending) (w' : World) : Prop :=
  ∃ a N c, e = .returned (.agg (ouL { opL id k P r n s u l hs with pl := .slice a N c } [] (.slice none 0 0) (opE id k P r n s u l hs)).toArray) ∧ RdX w' (.slice a N c) (opR id k P r n s u l hs) ∧ Below w.heap.size w w'
theorem OpAns.one {id k P r n s u : Int} {l hs : List Int} {w w' : World} {e : Ending} (h : OpAns id k P r n s u l hs w e w') : OneAns id k P r n s u l hs w e w' := by
  obtain ⟨L2, er, ex, rfl, bb, h⟩ := h
  rcases h with ⟨he, h1, h2, rs, v, hp, rfl, px, hx⟩ | ⟨he, rfl, hr⟩
  · have hy : opY id k P r n s u l hs := ⟨h1, h2⟩
    have rd := px.rd (w := w') (fun q hq => (hx q hq).2)
    have e1 : opR id k P r n s u l hs = rs := by unfold opR; rw [if_pos hy, hp]; rfl
    have e2 : opE id k P r n s u l hs = er := by unfold opE; rw [if_pos h1, h2, he]
    have e3 : opL id k P r n s u l hs = opnL id k P r n s u (.slice none 0 0) := if_pos hy
    have hv := rd
    obtain ⟨a, c, rfl, _⟩ := hv
    unfold OneAns
    rw [e1, e2, e3]
    exact ⟨a, rs.length, c, rfl, rd, bb⟩
  · have hn : ¬ opY id k P r n s u l hs := fun hy => he (by rw [hr, if_pos hy.1]; exact hy.2)
    have e1 : opR id k P r n s u l hs = [] := if_neg hn
    have e2 : opE id k P r n s u l hs = er := hr.symm
    have e3 : opL id k P r n s u l hs = lo0 := if_neg hn
    unfold OneAns
    rw [e1, e2, e3]
    exact ⟨none, 0, 0, rfl, ⟨none, 0, rfl, fun i hi => absurd hi (by simp)⟩, bb⟩
/-- Holidays of one's own, read. -/
theorem OwnH.rd {base N cap g : Nat} {w : World} {hs : List Int} (h : OwnH base w g N cap hs) : Rd w (.slice (some ⟨g, 0, none⟩) N cap) (bkL hs) := by
  obtain ⟨c0, _, gl, _⟩ := h.cells
  refine ⟨_, cap, by rw [bkL_len, ← h.1], by rw [bkL_len, ← h.1]; have := h.2.1; omega, (fun e => by cases e), fun i hi => ⟨g, 0, rfl, gl, ?_⟩⟩
  rw [bkL_len, ← h.1] at hi
  rw [Nat.zero_add, c0 i hi, ← List.getElem?_eq_getElem, bkL_at (by rw [← h.1]; exact hi)]
theorem OwnH.later {base N cap g : Nat} {w w' : World} {hs : List Int} (h : OwnH base w g N cap hs) (hb : Below w.heap.size w w') : OwnH base w' g N cap hs := ⟨h.1, h.2.1, h.2.2.kept (row := none) ⟨hb.os, hb.tape, hb.output, hb.size, fun k hk _ => hb.block k hk⟩ (fun _ _ => by simp)⟩
end Go.Proofs.YtgdmkcbbomfmdaaGreatDoor

namespace Go.Proofs.YtgdmkcbbomfmdaaGreatDoor
open Go.RowKit IntM CalM LedM CoM LoM PolM

theorem rowV_setL {e : TypeId} {base : Nat} {w : World} {g n cap i : Nat} {vs : List Value} {u : Value} (hn : vs.length = n) (h : RowV e base w (.slice (some ⟨g, 0, none⟩) n cap) vs) :
    RowV e base (w.setCell ⟨g, i, none⟩ u) (.slice (some ⟨g, 0, none⟩) n cap) (vs.set i u) ∧ w.grownBy (w.setCell ⟨g, i, none⟩ u) (some g) := by
  subst hn
  obtain ⟨h1, h2⟩ := World.ownsRow.stored h i u
  refine ⟨?_, h2⟩
  rw [RowV, List.length_set]
  exact h1

/-- What the statement makes of a holiday; the list while it is written over. -/
def aft (x : Int) : Int := wrap64 (bits BinOp.and IntKind.i64 x 16777215 + 1)
def mixL (hs : List Int) (k : Nat) : List Int := (hs.take k).map aft ++ hs.drop k
theorem mixL_0 (hs : List Int) : mixL hs 0 = hs := by simp [mixL]
theorem mixL_len (hs : List Int) (k : Nat) : (mixL hs k).length = hs.length := by simp [mixL]; omega
theorem mixL_end (hs : List Int) : mixL hs hs.length = hs.map aft := by simp [mixL]
theorem mixL_at {hs : List Int} {k : Nat} (h : k < hs.length) : (mixL hs k)[k]? = some (hs.getD k 0) := by
  have hl : ((hs.take k).map aft).length = k := by simp; omega
  unfold mixL
  rw [List.getElem?_append_right (by omega), hl, Nat.sub_self, List.getElem?_drop, Nat.add_zero, List.getElem?_eq_getElem h, List.getD_eq_getElem?_getD, List.getElem?_eq_getElem h]; rfl
theorem mixL_get {hs : List Int} {k : Nat} (h : k < hs.length) : (bkL (mixL hs k ++ [-44]))[k]? = some (.int .i64 (hs.getD k 0)) := by
  unfold bkL
  rw [List.getElem?_map, List.getElem?_append_left (by rw [mixL_len]; exact h), mixL_at h]; rfl
theorem mixL_put {hs : List Int} {k : Nat} (h : k < hs.length) : (mixL hs k).set k (aft (hs.getD k 0)) = mixL hs (k + 1) := by
  have hl : ((hs.take k).map aft).length = k := by simp; omega
  unfold mixL
  rw [List.set_append_right _ _ (by omega), hl, Nat.sub_self, List.drop_eq_getElem_cons h, List.set_cons_zero, List.take_add_one, List.getElem?_eq_getElem h, Option.toList_some, List.map_append, List.append_assoc, List.getD_eq_getElem?_getD, List.getElem?_eq_getElem h]; rfl
theorem mixL_set {hs : List Int} {k : Nat} (h : k < hs.length) : (bkL (mixL hs k ++ [-44])).set k (.int .i64 (aft (hs.getD k 0))) = bkL (mixL hs (k + 1) ++ [-44]) := by
  unfold bkL
  rw [← List.map_set, List.set_append_left _ _ (by rw [mixL_len]; exact h), mixL_put h]
theorem mixL_got {hs : List Int} {k : Nat} (h : k < hs.length) : (bkL (mixL hs (k + 1) ++ [-44]))[k]? = some (.int .i64 (aft (hs.getD k 0))) := by
  rw [← mixL_set h, List.getElem?_set_self (by rw [bkL_len, List.length_append, mixL_len]; omega)]
theorem cell_rowL {e : TypeId} {base g n cap i : Nat} {w : World} {vs : List Value} {u : Value} (h : RowV e base w (.slice (some ⟨g, 0, none⟩) n cap) vs) (hi : vs[i]? = some u) : w.cell? ⟨g, i, none⟩ = some u := by
  have := World.ownsRow.cells h rfl i u hi
  rw [show (⟨g, 0, none⟩ : Addr).add i = ⟨g, i, none⟩ from by unfold Addr.add; split <;> simp_all] at this
  exact this
theorem frz_rowL {e : TypeId} {base g n cap i : Nat} {w : World} {vs : List Value} (h : RowV e base w (.slice (some ⟨g, 0, none⟩) n cap) vs) : w.frozen? ⟨g, i, none⟩ = false := by
  rcases h.2 with ⟨h0, _⟩ | ⟨g1, cap', cur, h0, _, hh, _⟩
  · cases h0
  · cases h0
    simp [World.frozen?, hh]

set_option maxRecDepth 20000 in
set_option maxHeartbeats 8000000 in
theorem loanOpens_any (l hs : List Int) (a : Option Addr) (n0 c : Nat) (hl : l.length = 17) (id k P r n s u : Int) (w : World) (hP : i64 P) (hb : hs.length * 8 ≤ 140737488355320) (hr : Rd w (.slice a n0 c) (bkL hs)) (hT : TabD w) (hA : TabA w) (hL : TabL w) :
    Calls Tryz.prog 3 #[.agg (polL l (.slice a n0 c)).toArray, .int .i64 id, .agg #[.int .i64 k, .int .i64 P, .int .i64 r, .int .i64 n, .int .i64 s, .int .i64 u]] w fun e w' => e = .returned (.bool true) ∧ Below w.heap.size w w' := by
  have OW : Hid (∀ w', Below w.heap.size w w' → Calls Tryz.prog 4 #[.agg (polL l (.slice a n0 c)).toArray] w' (LOwnAns l hs w')) := fun w' b => lown_at l hs _ w' hl (hr.later b) hb
  have OP : Hid (∀ (hs' : List Int) (a' : Option Addr) (n' c' : Nat) (w' : World), hs'.length = hs.length → Below w.heap.size w w' → Rd w' (.slice a' n' c') (bkL hs') → Calls Tryz.prog 5 #[.agg (polL l (.slice a' n' c')).toArray, .int .i64 id, .agg #[.int .i64 k, .int .i64 P, .int .i64 r, .int .i64 n, .int .i64 s, .int .i64 u]] w' (OneAns id k P r n s u l hs' w')) := fun hs' a' n' c' w' e b rd => (lopen_at hl id k P r n s u w' hP (by omega) rd (hT.later b) (hA.up b) (hL.up b)).mono fun e w2 h => h.one
  have RO : Hid (∀ (hs' : List Int) (a' : Option Addr) (n' c' : Nat) (w' : World), hs'.length = hs.length → Rd w' (.slice a' n' c') (bkL hs') → Calls Tryz.prog 7 #[.agg (polL l (.slice a' n' c')).toArray, .int .i64 id, .agg #[.int .i64 k, .int .i64 P, .int .i64 r, .int .i64 n, .int .i64 s, .int .i64 u]] w' (OneAns id k P r n s u l hs' w')) := fun hs' a' n' c' w' e rd => (ropen_at hl id k P r n s u w' hP (by omega) rd).mono fun e w2 h => h.one
  have SM : Hid (∀ (hs' : List Int) (va vb : Value) (w' : World), RdX w' va (opR id k P r n s u l hs') → RdX w' vb (opR id k P r n s u l hs') → Calls Tryz.prog 6 #[.agg (ouL { opL id k P r n s u l hs' with pl := va } [] (.slice none 0 0) (opE id k P r n s u l hs')).toArray, .agg (ouL { opL id k P r n s u l hs' with pl := vb } [] (.slice none 0 0) (opE id k P r n s u l hs')).toArray] w' fun e w2 => e = .returned (.bool true) ∧ Below w'.heap.size w' w2) := fun hs' va vb w' ha hb => sameOu_yes _ va vb [] _ _ w' (by have := opR_len id k P r n s u l hs'; omega) (opL_bk id k P r n s u l hs') ha hb
  have LF : Hid (∀ (hs' : List Int) (g N cap base : Nat) (sl : Value) (w' : World), hs'.length = hs.length → OwnH base w' g N cap hs' → Rd w' sl (bkL hs') → Calls Tryz.prog 8 #[.agg (polL l (.slice (some ⟨g, 0, none⟩) N cap)).toArray, .agg (polL l sl).toArray] w' fun e w2 => e = .returned (.bool true) ∧ Below w'.heap.size w' w2) := fun hs' g N cap base sl w' e ho rd => left_yes l l hs' g N cap base sl w' hl hl ho rd (by omega)
  have SZ : Hid (∀ t : Value, (Tryz.prog.info? 24).map (·.size) = some (polL l t).length) := fun t => by show _ = _; rw [polL_len hl]; kernel_rfl
  have FT : Hid (∀ t : Value, 0 + (polL l t).length ≤ polZl.length) := fun t => by rw [polL_len hl]; exact Nat.le_refl 18
  have FZ : Hid (∀ t : Value, polZl.length ≤ 0 + (polL l t).length) := fun t => by rw [polL_len hl]; exact Nat.le_refl 18
  have HO : Hid (∀ s : Value, (polL l s)[17]? = some s) := fun s => polL_hol hl
  have ST : Hid ((Tryz.prog.info? 26).map (·.size) = some ([.int .i64 k, .int .i64 P, .int .i64 r, .int .i64 n, .int .i64 s, .int .i64 u] : List Value).length) := by show _ = some 6; kernel_rfl
  have RP : Hid (∀ w', Below w.heap.size w w' → Rd w' (.slice a n0 c) (bkL hs)) := fun w' b => hr.later b
  have BP : Hid (Blk w.heap.size 24 (polL l (.slice a n0 c)) ((w.alloc (.cells (polL l (.slice a n0 c)).toArray 24)).alloc (.cells #[.int .i64 k, .int .i64 P, .int .i64 r, .int .i64 n, .int .i64 s, .int .i64 u] 26))) := (Blk.new _ _ _).below (below_alloc _ _)
  have BT : Hid (Blk (w.heap.size + 1) 26 [.int .i64 k, .int .i64 P, .int .i64 r, .int .i64 n, .int .i64 s, .int .i64 u] ((w.alloc (.cells (polL l (.slice a n0 c)).toArray 24)).alloc (.cells #[.int .i64 k, .int .i64 P, .int .i64 r, .int .i64 n, .int .i64 s, .int .i64 u] 26))) := Blk.new2 _ _ _ _
  have B0 : Hid (Below w.heap.size w ((w.alloc (.cells (polL l (.slice a n0 c)).toArray 24)).alloc (.cells #[.int .i64 k, .int .i64 P, .int .i64 r, .int .i64 n, .int .i64 s, .int .i64 u] 26))) := below_trans (below_alloc _ _) (below_alloc _ _)
  obtain ⟨a', c', ea, HC⟩ := rdInt hr
  injection ea with ea1 ea2 ea3
  subst ea1 ea3
  have CX : Hid (∀ w', Below w.heap.size w w' → ∀ i, i < hs.length → ∃ g o, a = some ⟨g, o, none⟩ ∧ g < w.heap.size ∧ w'.cell? ⟨g, o + i, none⟩ = some (.int .i64 (hs.getD i 0))) := fun w' b i hi => by
    obtain ⟨g, o, e, h⟩ := HC w (Below.refl _ _) i hi
    have lt := block_lt_of_cell h
    exact ⟨g, o, e, lt, (b.cell (p := ⟨g, o + i, none⟩) lt).trans h⟩
  have HN0 : Hid (n0 = hs.length) := ea2
  clear hr hT hA hL hl HC ea2
  go_enter Tryz.func3, Tryz.ntmps3
  go_upto_region 1 with fail
  generalize ((w.alloc (.cells (polL l (.slice a n0 c)).toArray 24)).alloc (.cells #[.int .i64 k, .int .i64 P, .int .i64 r, .int .i64 n, .int .i64 s, .int .i64 u] 26)) = w0 at *
  go_wp2_with (refine step_load rfl 24 _ rfl w.heap.size 0 rfl (polL l (.slice a n0 c)) _ (Blk.all BP.out) Tryz.underlying24 rfl (SZ.out _) ?_)
  refine (OW.out w0 B0.out).mono ?_
  rintro e w1 ⟨g7, N7, c7, rfl, oh, b1⟩
  have BP1 : Hid (Blk w.heap.size 24 (polL l (.slice a n0 c)) w1) := BP.out.below b1
  have BT1 : Hid (Blk (w.heap.size + 1) 26 [.int .i64 k, .int .i64 P, .int .i64 r, .int .i64 n, .int .i64 s, .int .i64 u] w1) := BT.out.below b1
  have B1 : Hid (Below w.heap.size w w1) := below_trans B0.out b1
  have OH1 : Hid (OwnH w.heap.size w1 g7 N7 c7 hs) := ⟨oh.1, oh.2.1, oh.2.2.mono B0.out.size⟩
  have Z7 : Hid (Blk w1.heap.size 24 polZl (w1.alloc (.cells #[.int .i64 0, .int .i64 0, .int .i64 0, .int .i64 0, .int .i64 0, .int .i64 0, .int .i64 0, .int .i64 0, .int .i64 0, .int .i64 0, .int .i64 0, .int .i64 0, .int .i64 0, .int .i64 0, .int .i64 0, .int .i64 0, .int .i64 0, .slice none 0 0] 24))) := Blk.new _ _ _
  clear oh b1 BP BT B0
  obtain ⟨C7, hC7⟩ : ∃ C, w1.heap.size = C := ⟨_, rfl⟩
  have HC7 : Hid (w1.heap.size = C7) := hC7
  rw [hC7] at Z7
  clear hC7
  go_upto_region 2 with ((with_reducible refine LoK.at_store ?_); refine step_store rfl 24 _ _ rfl C7 0 24 polZl (polL l (.slice (some ⟨g7, 0, none⟩) N7 c7)) (by rw [← HC7.out]; rfl) rfl Z7.out (FT.out _) (SZ.out _) polL_oneL ?_; intro w2 nb2 g2)
  simp only [Act.put]
  rw [HC7.out]
  have BQ2 : Hid (Blk C7 24 (polL l (.slice (some ⟨g7, 0, none⟩) N7 c7)) w2) := blk_whole (FZ.out _) nb2
  have W2 : Hid (Below w1.heap.size w1 w2) := below_row (below_alloc w1 _) g2 (by rw [HC7.out]; exact Nat.le_refl _)
  have BP2 : Hid (Blk w.heap.size 24 (polL l (.slice a n0 c)) w2) := BP1.out.below W2.out
  have BT2 : Hid (Blk (w.heap.size + 1) 26 [.int .i64 k, .int .i64 P, .int .i64 r, .int .i64 n, .int .i64 s, .int .i64 u] w2) := BT1.out.below W2.out
  have B2 : Hid (Below w.heap.size w w2) := below_trans B1.out W2.out
  have OH2 : Hid (OwnH w.heap.size w2 g7 N7 c7 hs) := OH1.out.later W2.out
  clear nb2 g2 BP1 BT1 B1 OH1 Z7 W2 HC7
  go_wp2_with (first
    | (refine step_load rfl 24 _ rfl C7 0 rfl (polL l (.slice (some ⟨g7, 0, none⟩) N7 c7)) _ (Blk.all BQ2.out) Tryz.underlying24 rfl (SZ.out _) ?_)
    | (refine step_load rfl 26 _ rfl (w.heap.size + 1) 0 rfl ([.int .i64 k, .int .i64 P, .int .i64 r, .int .i64 n, .int .i64 s, .int .i64 u]) _ (Blk.all BT2.out) Tryz.underlying26 rfl ST.out ?_))
  refine (OP.out hs _ _ _ w2 rfl B2.out OH2.out.rd).mono ?_
  rintro e w3 ⟨ga, Na, ca, rfl, rx, b3⟩
  have BQ3 : Hid (Blk C7 24 (polL l (.slice (some ⟨g7, 0, none⟩) N7 c7)) w3) := BQ2.out.below b3
  have BP3 : Hid (Blk w.heap.size 24 (polL l (.slice a n0 c)) w3) := BP2.out.below b3
  have BT3 : Hid (Blk (w.heap.size + 1) 26 [.int .i64 k, .int .i64 P, .int .i64 r, .int .i64 n, .int .i64 s, .int .i64 u] w3) := BT2.out.below b3
  have B3 : Hid (Below w.heap.size w w3) := below_trans B2.out b3
  have OH3 : Hid (OwnH w.heap.size w3 g7 N7 c7 hs) := OH2.out.later b3
  have RX3 : Hid (RdX w3 (.slice ga Na ca) (opR id k P r n s u l hs)) := rx
  clear BQ2 BP2 BT2 B2 OH2 rx b3
  obtain ⟨O8, HO8⟩ : ∃ O8, Hid (ouL { opL id k P r n s u l hs with pl := .slice ga Na ca } [] (.slice none 0 0) (opE id k P r n s u l hs) = O8) := ⟨_, rfl⟩
  have S8 : Hid ((Tryz.prog.info? 41).map (·.size) = some O8.length) := by show _ = _; rw [← HO8.out]; exact sizeOu _ _ _ _
  have O8o : Hid (∀ v ∈ O8, v.oneCell' = true) := by show ∀ v ∈ O8, _; rw [← HO8.out]; exact ouL_one rfl rfl
  have O8l : Hid (O8.length = 53) := by show _ = _; rw [← HO8.out]; exact ouL_len _ _ _ _
  rw [HO8.out]
  have Z8 : Hid (Blk w3.heap.size 41 (ouL lo0 [] (.slice none 0 0) 0) (w3.alloc (.cells #[.int .i64 0, .int .i64 0, .int .i64 0, .int .i64 0, .int .i64 0, .int .i64 0, .int .i64 0, .slice none 0 0, .int .i64 0, .int .i64 0, .int .i64 0, .int .i64 0, .int .i64 0, .int .i64 0, .int .i64 0, .int .i64 0, .int .i64 0, .int .i64 0, .int .i64 0, .int .i64 0, .int .i64 0, .bool false, .int .i64 0, .int .i64 0, .int .i64 0, .int .i64 0, .int .i64 0, .int .i64 0, .int .i64 0, .int .i64 0, .int .i64 0, .int .i64 0, .int .i64 0, .int .i64 0, .int .i64 0, .int .i64 0, .int .i64 0, .int .i64 0, .int .i64 0, .int .i64 0, .int .i64 0, .int .i64 0, .int .i64 0, .bool false, .int .i64 0, .int .i64 0, .int .i64 0, .int .i64 0, .int .i64 0, .int .i64 0, .int .i64 0, .slice none 0 0, .int .i64 0] 41))) := Blk.new 41 (ouL lo0 [] (.slice none 0 0) 0) w3
  obtain ⟨C8, hC8⟩ : ∃ C, w3.heap.size = C := ⟨_, rfl⟩
  have HC8 : Hid (w3.heap.size = C8) := hC8
  rw [hC8] at Z8
  clear hC8
  go_upto_region 3 with ((with_reducible refine LoK.at_store ?_); refine step_store rfl 41 _ _ rfl C8 0 41 (ouL lo0 [] (.slice none 0 0) 0) O8 (by rw [← HC8.out]; rfl) rfl Z8.out (by rw [O8l.out, ouL_len]; exact Nat.le_refl _) S8.out O8o.out ?_; intro w4 nb4 g4)
  simp only [Act.put]
  rw [HC8.out]
  have BO4 : Hid (Blk C8 41 O8 w4) := by
    show Blk _ _ _ _
    rwa [store_all (by rw [O8l.out, ouL_len])] at nb4
  have W4 : Hid (Below w3.heap.size w3 w4) := below_row (below_alloc w3 _) g4 (by rw [HC8.out]; exact Nat.le_refl _)
  have BQ4 : Hid (Blk C7 24 (polL l (.slice (some ⟨g7, 0, none⟩) N7 c7)) w4) := BQ3.out.below W4.out
  have BP4 : Hid (Blk w.heap.size 24 (polL l (.slice a n0 c)) w4) := BP3.out.below W4.out
  have BT4 : Hid (Blk (w.heap.size + 1) 26 [.int .i64 k, .int .i64 P, .int .i64 r, .int .i64 n, .int .i64 s, .int .i64 u] w4) := BT3.out.below W4.out
  have B4 : Hid (Below w.heap.size w w4) := below_trans B3.out W4.out
  have OH4 : Hid (OwnH w.heap.size w4 g7 N7 c7 hs) := OH3.out.later W4.out
  have RX4 : Hid (RdX w4 (.slice ga Na ca) (opR id k P r n s u l hs)) := RX3.out.later W4.out
  clear nb4 g4 BQ3 BP3 BT3 B3 OH3 RX3 W4 Z8 HC8
  have hS0 : Blk C8 41 O8 w4.drew ∧ Blk w.heap.size 24 (polL l (.slice a n0 c)) w4.drew ∧ Blk (w.heap.size + 1) 26 [.int .i64 k, .int .i64 P, .int .i64 r, .int .i64 n, .int .i64 s, .int .i64 u] w4.drew ∧ Blk C7 24 (polL l (.slice (some ⟨g7, 0, none⟩) N7 c7)) w4.drew := ⟨BO4.out, BP4.out, BT4.out, BQ4.out⟩
  have hB0 : Below w.heap.size w w4.drew := below_drewN B4.out 1
  have hO0 : OwnH w.heap.size w4.drew g7 N7 c7 hs := OH4.out.later (below_drewN (Below.refl _ _) 1)
  have hR0 : RdX w4.drew (.slice ga Na ca) (opR id k P r n s u l hs) := RX4.out.later (below_drewN (Below.refl _ _) 1)
  clear BO4 BP4 BT4 BQ4 B4 OH4 RX4
  refine wp_region_held_drew (S := fun w' => Blk C8 41 O8 w' ∧ Blk w.heap.size 24 (polL l (.slice a n0 c)) w' ∧ Blk (w.heap.size + 1) 26 [.int .i64 k, .int .i64 P, .int .i64 r, .int .i64 n, .int .i64 s, .int .i64 u] w' ∧ Blk C7 24 (polL l (.slice (some ⟨g7, 0, none⟩) N7 c7)) w') (by kernel_rfl) hS0 (fun hH => ?_)
  generalize w4.drew = w5 at *
  refine wpAnyH_take (i := 0) (v := .agg (O8 : List Value).toArray) rfl (by kernel_rfl) (by kernel_rfl) (by kernel_rfl) (fun _ _ _ h => h) (yieldsIf_load_mid (by rfl) _ _ rfl (C8) 0 rfl (O8) _ (fun w' h => Blk.all (h.1)) Tryz.underlying41 rfl S8.out) hH ?_
  try simp only [Act.put, List.getElem_toArray, List.getElem_cons_zero, List.setIfInBounds_toArray, List.set_cons_zero, List.set_cons_succ]
  refine wpAnyH_take (i := 1) (v := .agg (polL l (.slice a n0 c) : List Value).toArray) rfl (by kernel_rfl) (by kernel_rfl) (by kernel_rfl) (fun _ _ _ h => h) (yieldsIf_load_mid (by rfl) _ _ rfl (w.heap.size) 0 rfl (polL l (.slice a n0 c)) _ (fun w' h => Blk.all (h.2.1)) Tryz.underlying24 rfl (SZ.out _)) hH ?_
  try simp only [Act.put, List.getElem_toArray, List.getElem_cons_succ, List.getElem_cons_zero, List.setIfInBounds_toArray, List.set_cons_zero, List.set_cons_succ]
  refine wpAnyH_take (i := 2) (v := .int .i64 id) rfl (by kernel_rfl) (by kernel_rfl) (by kernel_rfl) (fun _ _ _ h => h) (Or.inl ⟨by rfl, fun w' h => by go_simp⟩) hH ?_
  try simp only [Act.put, List.getElem_toArray, List.getElem_cons_succ, List.getElem_cons_zero, List.setIfInBounds_toArray, List.set_cons_zero, List.set_cons_succ]
  refine wpAnyH_take (i := 3) (v := .agg ([.int .i64 k, .int .i64 P, .int .i64 r, .int .i64 n, .int .i64 s, .int .i64 u] : List Value).toArray) rfl (by kernel_rfl) (by kernel_rfl) (by kernel_rfl) (fun _ _ _ h => h) (yieldsIf_load_mid (by rfl) _ _ rfl (w.heap.size + 1) 0 rfl ([.int .i64 k, .int .i64 P, .int .i64 r, .int .i64 n, .int .i64 s, .int .i64 u]) _ (fun w' h => Blk.all (h.2.2.1)) Tryz.underlying26 rfl ST.out) hH ?_
  try simp only [Act.put, List.getElem_toArray, List.getElem_cons_succ, List.getElem_cons_zero, List.setIfInBounds_toArray, List.set_cons_zero, List.set_cons_succ]
  refine wpAnyH_ready (rs := [4]) (by kernel_rfl) (by simp) ?_
  refine AllReadyH.cons rfl (fun K hK => ?_) AllReadyH.nil
  go_simp
  refine (RO.out hs _ _ _ w5 rfl (RP.out w5 hB0)).mono ?_
  rintro e w6 ⟨gb, Nb, cb, rfl, rx6, b6⟩
  have hS1 : (fun w' => Blk C8 41 O8 w' ∧ Blk w.heap.size 24 (polL l (.slice a n0 c)) w' ∧ Blk (w.heap.size + 1) 26 [.int .i64 k, .int .i64 P, .int .i64 r, .int .i64 n, .int .i64 s, .int .i64 u] w' ∧ Blk C7 24 (polL l (.slice (some ⟨g7, 0, none⟩) N7 c7)) w') w6 := ⟨hS0.1.below b6, hS0.2.1.below b6, hS0.2.2.1.below b6, hS0.2.2.2.below b6⟩
  have hB1 : Below w.heap.size w w6 := below_trans hB0 b6
  have hO1 := hO0.later b6
  have hR1 := hR0.later b6
  refine hK.out _ _ hS1 (fun hH => ?_)
  refine wpAnyH_ready (rs := [5]) (by kernel_rfl) (by simp) ?_
  refine AllReadyH.cons rfl (fun K hK => ?_) AllReadyH.nil
  go_simp
  have SC : Calls Tryz.prog 6 #[.agg O8.toArray, .agg (ouL { opL id k P r n s u l hs with pl := .slice gb Nb cb } [] (.slice none 0 0) (opE id k P r n s u l hs)).toArray] w6 fun e w2 => e = .returned (.bool true) ∧ Below w6.heap.size w6 w2 := by rw [← HO8.out]; exact SM.out hs _ _ w6 hR1 rx6
  refine SC.mono ?_
  rintro e w7 ⟨rfl, b7⟩
  have hS2 : (fun w' => Blk C8 41 O8 w' ∧ Blk w.heap.size 24 (polL l (.slice a n0 c)) w' ∧ Blk (w.heap.size + 1) 26 [.int .i64 k, .int .i64 P, .int .i64 r, .int .i64 n, .int .i64 s, .int .i64 u] w' ∧ Blk C7 24 (polL l (.slice (some ⟨g7, 0, none⟩) N7 c7)) w') w7 := ⟨hS1.1.below b7, hS1.2.1.below b7, hS1.2.2.1.below b7, hS1.2.2.2.below b7⟩
  have hB2 : Below w.heap.size w w7 := below_trans hB1 b7
  have hO2 := hO1.later b7
  clear hS0 hS1 hR0 hR1 hO0 hO1 SC rx6
  refine hK.out _ _ hS2 (fun hH => ?_)
  try simp only [Act.put, List.getElem_toArray, List.getElem_cons_succ, List.getElem_cons_zero, List.setIfInBounds_toArray, List.set_cons_zero, List.set_cons_succ]
  refine wpAnyH_take (i := 6) (v := .bool false) rfl (by kernel_rfl) (by kernel_rfl) (by kernel_rfl) (fun _ _ _ h => h) (Or.inl ⟨by rfl, fun w' h => by go_simp⟩) hH ?_
  try simp only [Act.put, List.getElem_toArray, List.getElem_cons_succ, List.getElem_cons_zero, List.setIfInBounds_toArray, List.set_cons_zero, List.set_cons_succ]
  refine wpAnyH_take (i := 7) (v := .bool false) rfl (by kernel_rfl) (by kernel_rfl) (by kernel_rfl) (fun _ _ _ h => h) (Or.inl ⟨by rfl, fun w' h => by go_simp⟩) hH ?_
  try simp only [Act.put, List.getElem_toArray, List.getElem_cons_succ, List.getElem_cons_zero, List.setIfInBounds_toArray, List.set_cons_zero, List.set_cons_succ]
  refine wpAnyH_take (i := 8) (v := .agg (polL l (.slice (some ⟨g7, 0, none⟩) N7 c7) : List Value).toArray) rfl (by kernel_rfl) (by kernel_rfl) (by kernel_rfl) (fun _ _ _ h => h) (yieldsIf_load_mid (by rfl) _ _ rfl (C7) 0 rfl (polL l (.slice (some ⟨g7, 0, none⟩) N7 c7)) _ (fun w' h => Blk.all (h.2.2.2)) Tryz.underlying24 rfl (SZ.out _)) hH ?_
  try simp only [Act.put, List.getElem_toArray, List.getElem_cons_succ, List.getElem_cons_zero, List.setIfInBounds_toArray, List.set_cons_zero, List.set_cons_succ]
  refine wpAnyH_take (i := 9) (v := .agg (polL l (.slice a n0 c) : List Value).toArray) rfl (by kernel_rfl) (by kernel_rfl) (by kernel_rfl) (fun _ _ _ h => h) (yieldsIf_load_mid (by rfl) _ _ rfl (w.heap.size) 0 rfl (polL l (.slice a n0 c)) _ (fun w' h => Blk.all (h.2.1)) Tryz.underlying24 rfl (SZ.out _)) hH ?_
  try simp only [Act.put, List.getElem_toArray, List.getElem_cons_succ, List.getElem_cons_zero, List.setIfInBounds_toArray, List.set_cons_zero, List.set_cons_succ]
  refine wpAnyH_ready (rs := [10]) (by kernel_rfl) (by simp) ?_
  refine AllReadyH.cons rfl (fun K hK => ?_) AllReadyH.nil
  go_simp
  refine (LF.out hs g7 N7 c7 _ _ w7 rfl hO2 (RP.out w7 hB2)).mono ?_
  rintro e w8 ⟨rfl, b8⟩
  have hS3 : (fun w' => Blk C8 41 O8 w' ∧ Blk w.heap.size 24 (polL l (.slice a n0 c)) w' ∧ Blk (w.heap.size + 1) 26 [.int .i64 k, .int .i64 P, .int .i64 r, .int .i64 n, .int .i64 s, .int .i64 u] w' ∧ Blk C7 24 (polL l (.slice (some ⟨g7, 0, none⟩) N7 c7)) w') w8 := ⟨hS2.1.below b8, hS2.2.1.below b8, hS2.2.2.1.below b8, hS2.2.2.2.below b8⟩
  have hB3 : Below w.heap.size w w8 := below_trans hB2 b8
  have hO3 := hO2.later b8
  refine hK.out _ _ hS3 (fun hH => ?_)
  try simp only [Act.put, List.getElem_toArray, List.getElem_cons_succ, List.getElem_cons_zero, List.setIfInBounds_toArray, List.set_cons_zero, List.set_cons_succ]
  refine wpAnyH_take (i := 11) (v := .bool false) rfl (by kernel_rfl) (by kernel_rfl) (by kernel_rfl) (fun _ _ _ h => h) (Or.inl ⟨by rfl, fun w' h => by go_simp⟩) hH ?_
  try simp only [Act.put, List.getElem_toArray, List.getElem_cons_succ, List.getElem_cons_zero, List.setIfInBounds_toArray, List.set_cons_zero, List.set_cons_succ]
  refine wpAnyH_take (i := 12) (v := .bool false) rfl (by kernel_rfl) (by kernel_rfl) (by kernel_rfl) (fun _ _ _ h => h) (Or.inl ⟨by rfl, fun w' h => by go_simp⟩) hH ?_
  try simp only [Act.put, List.getElem_toArray, List.getElem_cons_succ, List.getElem_cons_zero, List.setIfInBounds_toArray, List.set_cons_zero, List.set_cons_succ]
  refine wpAnyH_done (by kernel_rfl) ?_ _
  try simp only [Act.put, List.getElem_toArray, List.getElem_cons_succ, List.getElem_cons_zero, List.setIfInBounds_toArray, List.set_cons_zero, List.set_cons_succ]
  have BO8 : Hid (Blk C8 41 O8 w8) := hS3.1
  have BP8 : Hid (Blk w.heap.size 24 (polL l (.slice a n0 c)) w8) := hS3.2.1
  have BT8 : Hid (Blk (w.heap.size + 1) 26 [.int .i64 k, .int .i64 P, .int .i64 r, .int .i64 n, .int .i64 s, .int .i64 u] w8) := hS3.2.2.1
  have BQ8 : Hid (Blk C7 24 (polL l (.slice (some ⟨g7, 0, none⟩) N7 c7)) w8) := hS3.2.2.2
  have B8 : Hid (Below w.heap.size w w8) := hB3
  have OH8 : Hid (OwnH w.heap.size w8 g7 N7 c7 hs) := hO3
  clear hH hK hS2 hS3 hB0 hB1 hB2 hB3 hO2 hO3 b6 b7 b8
  go_upto_region 5 with fail
  go_wp2_with (refine step_load rfl 24 _ rfl w.heap.size 0 rfl (polL l (.slice a n0 c)) _ (Blk.all BP8.out) Tryz.underlying24 rfl (SZ.out _) ?_)
  refine (OW.out w8 B8.out).mono ?_
  rintro e w9 ⟨g9, N9, c9, rfl, oh, b9⟩
  have BP9 : Hid (Blk w.heap.size 24 (polL l (.slice a n0 c)) w9) := BP8.out.below b9
  have BT9 : Hid (Blk (w.heap.size + 1) 26 [.int .i64 k, .int .i64 P, .int .i64 r, .int .i64 n, .int .i64 s, .int .i64 u] w9) := BT8.out.below b9
  have BQ9 : Hid (Blk C7 24 (polL l (.slice (some ⟨g7, 0, none⟩) N7 c7)) w9) := BQ8.out.below b9
  have B9 : Hid (Below w.heap.size w w9) := below_trans B8.out b9
  have OH9 : Hid (OwnH w.heap.size w9 g7 N7 c7 hs) := OH8.out.later b9
  have G79 : Hid (g7 < g9) := Nat.lt_of_lt_of_le OH8.out.cells.2.2.1 oh.cells.2.2.2
  have OI9 : Hid (OwnH w.heap.size w9 g9 N9 c9 hs) := ⟨oh.1, oh.2.1, oh.2.2.mono B8.out.size⟩
  have Z9 : Hid (Blk w9.heap.size 24 polZl (w9.alloc (.cells #[.int .i64 0, .int .i64 0, .int .i64 0, .int .i64 0, .int .i64 0, .int .i64 0, .int .i64 0, .int .i64 0, .int .i64 0, .int .i64 0, .int .i64 0, .int .i64 0, .int .i64 0, .int .i64 0, .int .i64 0, .int .i64 0, .int .i64 0, .slice none 0 0] 24))) := Blk.new _ _ _
  clear oh b9 BO8 BP8 BT8 BQ8 B8 OH8
  obtain ⟨C9, hC9⟩ : ∃ C, w9.heap.size = C := ⟨_, rfl⟩
  have HC9 : Hid (w9.heap.size = C9) := hC9
  rw [hC9] at Z9
  clear hC9
  go_upto_region 6 with ((with_reducible refine LoK.at_store ?_); refine step_store rfl 24 _ _ rfl C9 0 24 polZl (polL l (.slice (some ⟨g9, 0, none⟩) N9 c9)) (by rw [← HC9.out]; rfl) rfl Z9.out (FT.out _) (SZ.out _) polL_oneL ?_; intro wA nbA gA)
  simp only [Act.put]
  rw [HC9.out]
  have BRA : Hid (Blk C9 24 (polL l (.slice (some ⟨g9, 0, none⟩) N9 c9)) wA) := blk_whole (FZ.out _) nbA
  have WA : Hid (Below w9.heap.size w9 wA) := below_row (below_alloc w9 _) gA (by rw [HC9.out]; exact Nat.le_refl _)
  have BPA : Hid (Blk w.heap.size 24 (polL l (.slice a n0 c)) wA) := BP9.out.below WA.out
  have BTA : Hid (Blk (w.heap.size + 1) 26 [.int .i64 k, .int .i64 P, .int .i64 r, .int .i64 n, .int .i64 s, .int .i64 u] wA) := BT9.out.below WA.out
  have BQA : Hid (Blk C7 24 (polL l (.slice (some ⟨g7, 0, none⟩) N7 c7)) wA) := BQ9.out.below WA.out
  have BA : Hid (Below w.heap.size w wA) := below_trans B9.out WA.out
  have OHA : Hid (OwnH w.heap.size wA g7 N7 c7 hs) := OH9.out.later WA.out
  have OIA : Hid (OwnH w.heap.size wA g9 N9 c9 hs) := OI9.out.later WA.out
  clear nbA gA BP9 BT9 BQ9 B9 OH9 OI9 WA Z9 HC9
  have E7 : Hid (N7 = hs.length ∧ N9 = hs.length) := ⟨OHA.out.1, OIA.out.1⟩
  have D7 : Hid (N7 + 1 ≤ c7 ∧ N9 + 1 ≤ c9) := ⟨OHA.out.2.1, OIA.out.2.1⟩
  have QA : Hid (RowV 3 w.heap.size wA (.slice (some ⟨g7, 0, none⟩) (N7 + 1) c7) (bkL (mixL hs 0 ++ [-44]))) := by show RowV _ _ _ _ _; rw [mixL_0]; exact OHA.out.2.2
  have RA : Hid (RowV 3 w.heap.size wA (.slice (some ⟨g9, 0, none⟩) (N9 + 1) c9) (bkL (mixL hs 0 ++ [-44]))) := by show RowV _ _ _ _ _; rw [mixL_0]; exact OIA.out.2.2
  clear OHA OIA
  go_wp2_with fail
  go_loopw [10] (fun vk wr => ∃ j : Nat, vk = .int .i64 (j : Int) ∧ j ≤ hs.length ∧ Below w.heap.size w wr ∧ Blk w.heap.size 24 (polL l (.slice a n0 c)) wr ∧ Blk (w.heap.size + 1) 26 [.int .i64 k, .int .i64 P, .int .i64 r, .int .i64 n, .int .i64 s, .int .i64 u] wr ∧ Blk C7 24 (polL l (.slice (some ⟨g7, 0, none⟩) N7 c7)) wr ∧ Blk C9 24 (polL l (.slice (some ⟨g9, 0, none⟩) N9 c9)) wr ∧ RowV 3 w.heap.size wr (.slice (some ⟨g7, 0, none⟩) (N7 + 1) c7) (bkL (mixL hs j ++ [-44])) ∧ RowV 3 w.heap.size wr (.slice (some ⟨g9, 0, none⟩) (N9 + 1) c9) (bkL (mixL hs j ++ [-44]))) (fun vk _ => hs.length - (intOf vk).toNat)
  case atStart => exact ⟨0, rfl, by omega, BA.out, BPA.out, BTA.out, BQA.out, BRA.out, QA.out, RA.out⟩
  case round =>
    clear BA BPA BTA BQA BRA QA RA
    obtain ⟨j, rfl, hj, bb, bp, bt, bq, br, rq, rr⟩ := hrel
    have BB : Hid (Below w.heap.size w wr) := bb
    have BP : Hid (Blk w.heap.size 24 (polL l (.slice a n0 c)) wr) := bp
    have BT : Hid (Blk (w.heap.size + 1) 26 [.int .i64 k, .int .i64 P, .int .i64 r, .int .i64 n, .int .i64 s, .int .i64 u] wr) := bt
    have BQ : Hid (Blk C7 24 (polL l (.slice (some ⟨g7, 0, none⟩) N7 c7)) wr) := bq
    have BR : Hid (Blk C9 24 (polL l (.slice (some ⟨g9, 0, none⟩) N9 c9)) wr) := br
    have RQ : Hid (RowV 3 w.heap.size wr (.slice (some ⟨g7, 0, none⟩) (N7 + 1) c7) (bkL (mixL hs j ++ [-44]))) := rq
    have RR : Hid (RowV 3 w.heap.size wr (.slice (some ⟨g9, 0, none⟩) (N9 + 1) c9) (bkL (mixL hs j ++ [-44]))) := rr
    clear bb bp bt bq br rq rr
    have p17 := BP.out.cell 17 _ (HO.out _)
    by_cases hlt : j < hs.length
    · have hlt' : (j : Int) < (n0 : Int) := by have := HN0.out; omega
      have q17 := BQ.out.cell 17 _ (HO.out _)
      obtain ⟨g, o, rfl, glt, cx⟩ := CX.out wr BB.out j hlt
      obtain ⟨x, hx⟩ : ∃ x, hs.getD j 0 = x := ⟨_, rfl⟩
      rw [hx] at cx
      have j7 : (j : Int) < (N7 : Int) := by have := E7.out.1; omega
      have j9 : (j : Int) < (N9 : Int) := by have := E7.out.2; omega
      have j0 : (0 : Int) ≤ (j : Int) := by omega
      have lq : (bkL (mixL hs j ++ [-44])).length = N7 + 1 := by rw [bkL_len, List.length_append, mixL_len]; have := E7.out.1; simp; omega
      have lr : (bkL (mixL hs j ++ [-44])).length = N9 + 1 := by rw [bkL_len, List.length_append, mixL_len]; have := E7.out.2; simp; omega
      have aj : (bkL (mixL hs j ++ [-44]))[j]? = some (.int .i64 x) := by rw [mixL_get hlt, hx]
      have HSQ : Hid (RowV 3 w.heap.size (wr.setCell ⟨g7, j, none⟩ (.int .i64 (aft x))) (.slice (some ⟨g7, 0, none⟩) (N7 + 1) c7) (bkL (mixL hs (j + 1) ++ [-44])) ∧ wr.grownBy (wr.setCell ⟨g7, j, none⟩ (.int .i64 (aft x))) (some g7)) := by
        have h := rowV_setL (i := j) (u := .int .i64 (aft x)) lq RQ.out
        have e := mixL_set hlt
        rw [hx] at e
        rw [e] at h
        exact h
      have c7x : wr.cell? ⟨g7, j, none⟩ = some (.int .i64 x) := cell_rowL RQ.out aj
      have f7 : wr.frozen? ⟨g7, j, none⟩ = false := frz_rowL RQ.out
      have l7 : g7 < wr.heap.size := RQ.out.block_lt rfl
      have g7w : w.heap.size ≤ g7 := RQ.out.block_ge rfl
      have BPx : Hid (Blk w.heap.size 24 (polL l (.slice (some ⟨g, o, none⟩) n0 c)) (wr.setCell ⟨g7, j, none⟩ (.int .i64 (aft x))).drew) := (BP.out.grown HSQ.out.2 (row_ne_blkL RQ.out BP.out (by decide))).drewN 1
      have BTx : Hid (Blk (w.heap.size + 1) 26 [.int .i64 k, .int .i64 P, .int .i64 r, .int .i64 n, .int .i64 s, .int .i64 u] (wr.setCell ⟨g7, j, none⟩ (.int .i64 (aft x))).drew) := (BT.out.grown HSQ.out.2 (row_ne_blkL RQ.out BT.out (by decide))).drewN 1
      have BQx : Hid (Blk C7 24 (polL l (.slice (some ⟨g7, 0, none⟩) N7 c7)) (wr.setCell ⟨g7, j, none⟩ (.int .i64 (aft x))).drew) := (BQ.out.grown HSQ.out.2 (row_ne_blkL RQ.out BQ.out (by decide))).drewN 1
      have BRx : Hid (Blk C9 24 (polL l (.slice (some ⟨g9, 0, none⟩) N9 c9)) (wr.setCell ⟨g7, j, none⟩ (.int .i64 (aft x))).drew) := (BR.out.grown HSQ.out.2 (row_ne_blkL RQ.out BR.out (by decide))).drewN 1
      have RQx : Hid (RowV 3 w.heap.size (wr.setCell ⟨g7, j, none⟩ (.int .i64 (aft x))).drew (.slice (some ⟨g7, 0, none⟩) (N7 + 1) c7) (bkL (mixL hs (j + 1) ++ [-44]))) := HSQ.out.1.drewN 1
      have RRx : Hid (RowV 3 w.heap.size (wr.setCell ⟨g7, j, none⟩ (.int .i64 (aft x))).drew (.slice (some ⟨g9, 0, none⟩) (N9 + 1) c9) (bkL (mixL hs j ++ [-44]))) := (RR.out.kept HSQ.out.2 (fun q e f => by cases e; cases f; exact Nat.lt_irrefl _ G79.out)).drewN 1
      have BBx : Hid (Below w.heap.size w (wr.setCell ⟨g7, j, none⟩ (.int .i64 (aft x))).drew) := below_drewN (below_row BB.out HSQ.out.2 g7w) 1
      clear RQ BP BT BQ BR RR BB HSQ aj lq
      have AX : wrap64 (bits BinOp.and IntKind.i64 x 16777215 + 1) = aft x := rfl
      go_upto_region 9 with fail
      go_region
      rw [AX]
      generalize (wr.setCell ⟨g7, j, none⟩ (.int .i64 (aft x))).drew = wa at *
      clear c7x f7 l7 cx p17 q17 AX
      have aj2 : (bkL (mixL hs (j + 1) ++ [-44]))[j]? = some (.int .i64 (aft x)) := by rw [mixL_got hlt, hx]
      have q17 := BQx.out.cell 17 _ (HO.out _)
      have r17 := BRx.out.cell 17 _ (HO.out _)
      have c7y : wa.cell? ⟨g7, j, none⟩ = some (.int .i64 (aft x)) := cell_rowL RQx.out aj2
      have aj3 : (bkL (mixL hs j ++ [-44]))[j]? = some (.int .i64 x) := by rw [mixL_get hlt, hx]
      have c9y : wa.cell? ⟨g9, j, none⟩ = some (.int .i64 x) := cell_rowL RRx.out aj3
      have f9 : wa.frozen? ⟨g9, j, none⟩ = false := frz_rowL RRx.out
      have l9 : g9 < wa.heap.size := RRx.out.block_lt rfl
      have g9w : w.heap.size ≤ g9 := RRx.out.block_ge rfl
      have HSR : Hid (RowV 3 w.heap.size (wa.setCell ⟨g9, j, none⟩ (.int .i64 (aft x))) (.slice (some ⟨g9, 0, none⟩) (N9 + 1) c9) (bkL (mixL hs (j + 1) ++ [-44])) ∧ wa.grownBy (wa.setCell ⟨g9, j, none⟩ (.int .i64 (aft x))) (some g9)) := by
        have h := rowV_setL (i := j) (u := .int .i64 (aft x)) lr RRx.out
        have e := mixL_set hlt
        rw [hx] at e
        rw [e] at h
        exact h
      have BPy : Hid (Blk w.heap.size 24 (polL l (.slice (some ⟨g, o, none⟩) n0 c)) (wa.setCell ⟨g9, j, none⟩ (.int .i64 (aft x))).drew) := (BPx.out.grown HSR.out.2 (row_ne_blkL RRx.out BPx.out (by decide))).drewN 1
      have BTy : Hid (Blk (w.heap.size + 1) 26 [.int .i64 k, .int .i64 P, .int .i64 r, .int .i64 n, .int .i64 s, .int .i64 u] (wa.setCell ⟨g9, j, none⟩ (.int .i64 (aft x))).drew) := (BTx.out.grown HSR.out.2 (row_ne_blkL RRx.out BTx.out (by decide))).drewN 1
      have BQy : Hid (Blk C7 24 (polL l (.slice (some ⟨g7, 0, none⟩) N7 c7)) (wa.setCell ⟨g9, j, none⟩ (.int .i64 (aft x))).drew) := (BQx.out.grown HSR.out.2 (row_ne_blkL RRx.out BQx.out (by decide))).drewN 1
      have BRy : Hid (Blk C9 24 (polL l (.slice (some ⟨g9, 0, none⟩) N9 c9)) (wa.setCell ⟨g9, j, none⟩ (.int .i64 (aft x))).drew) := (BRx.out.grown HSR.out.2 (row_ne_blkL RRx.out BRx.out (by decide))).drewN 1
      have RRy : Hid (RowV 3 w.heap.size (wa.setCell ⟨g9, j, none⟩ (.int .i64 (aft x))).drew (.slice (some ⟨g9, 0, none⟩) (N9 + 1) c9) (bkL (mixL hs (j + 1) ++ [-44]))) := HSR.out.1.drewN 1
      have RQy : Hid (RowV 3 w.heap.size (wa.setCell ⟨g9, j, none⟩ (.int .i64 (aft x))).drew (.slice (some ⟨g7, 0, none⟩) (N7 + 1) c7) (bkL (mixL hs (j + 1) ++ [-44]))) := (RQx.out.kept HSR.out.2 (fun q e f => by cases e; cases f; exact Nat.lt_irrefl _ G79.out)).drewN 1
      have BBy : Hid (Below w.heap.size w (wa.setCell ⟨g9, j, none⟩ (.int .i64 (aft x))).drew) := below_drewN (below_row BBx.out HSR.out.2 g9w) 1
      clear RQx BPx BTx BQx BRx RRx BBx HSR aj2 aj3 lr
      generalize aft x = y at *
      go_upto_region 10 with fail
      go_region
      generalize (wa.setCell ⟨g9, j, none⟩ (.int .i64 y)).drew = wb at *
      clear c7y c9y f9 l9 q17 r17
      go_wp2_with fail
      go_roundw
      case rel => exact ⟨j + 1, by go_num, by omega, BBy.out, BPy.out, BTy.out, BQy.out, BRy.out, RQy.out, RRy.out⟩
      case measure => simp [intOf]; omega
    · have HJ : Hid (j = hs.length) := by show _ = _; omega
      have nlt : decide ((j : Int) < (n0 : Int)) = false := decide_eq_false (by have := HN0.out; omega)
      have nlt2 : ¬ j < n0 := by have := HN0.out; omega
      have nlt3 : decide (j < n0) = false := decide_eq_false nlt2
      rw [HJ.out, mixL_end] at RQ RR
      have OQ : Hid (OwnH w.heap.size wr g7 N7 c7 (hs.map aft)) := ⟨by rw [List.length_map]; exact E7.out.1, D7.out.1, RQ.out⟩
      have OI : Hid (OwnH w.heap.size wr g9 N9 c9 (hs.map aft)) := ⟨by rw [List.length_map]; exact E7.out.2, D7.out.2, RR.out⟩
      have LM : Hid ((hs.map aft).length = hs.length) := List.length_map ..
      clear RQ RR hlt hj CX BP RP OW E7 D7 G79 HN0 HJ
      generalize hs.map aft = hz at *
      go_upto_region 11 with fail
      go_wp2_with (first
        | (refine step_load rfl 24 _ rfl C7 0 rfl (polL l (.slice (some ⟨g7, 0, none⟩) N7 c7)) _ (Blk.all BQ.out) Tryz.underlying24 rfl (SZ.out _) ?_)
        | (refine step_load rfl 26 _ rfl (w.heap.size + 1) 0 rfl ([.int .i64 k, .int .i64 P, .int .i64 r, .int .i64 n, .int .i64 s, .int .i64 u]) _ (Blk.all BT.out) Tryz.underlying26 rfl ST.out ?_))
      refine (OP.out hz _ _ _ wr LM.out BB.out OQ.out.rd).mono ?_
      rintro e w3 ⟨gd, Nd, cd, rfl, rx, b3⟩
      have BQ3 : Hid (Blk C7 24 (polL l (.slice (some ⟨g7, 0, none⟩) N7 c7)) w3) := BQ.out.below b3
      have BR3 : Hid (Blk C9 24 (polL l (.slice (some ⟨g9, 0, none⟩) N9 c9)) w3) := BR.out.below b3
      have BT3 : Hid (Blk (w.heap.size + 1) 26 [.int .i64 k, .int .i64 P, .int .i64 r, .int .i64 n, .int .i64 s, .int .i64 u] w3) := BT.out.below b3
      have B3 : Hid (Below w.heap.size w w3) := below_trans BB.out b3
      have OQ3 : Hid (OwnH w.heap.size w3 g7 N7 c7 hz) := OQ.out.later b3
      have OI3 : Hid (OwnH w.heap.size w3 g9 N9 c9 hz) := OI.out.later b3
      have RX3 : Hid (RdX w3 (.slice gd Nd cd) (opR id k P r n s u l hz)) := rx
      clear BQ BR BT BB OQ OI rx b3 HO8 S8 O8o O8l
      obtain ⟨Ob, HOb⟩ : ∃ O8, Hid (ouL { opL id k P r n s u l hz with pl := .slice gd Nd cd } [] (.slice none 0 0) (opE id k P r n s u l hz) = O8) := ⟨_, rfl⟩
      have Sb : Hid ((Tryz.prog.info? 41).map (·.size) = some Ob.length) := by show _ = _; rw [← HOb.out]; exact sizeOu _ _ _ _
      have Obo : Hid (∀ v ∈ Ob, v.oneCell' = true) := by show ∀ v ∈ Ob, _; rw [← HOb.out]; exact ouL_one rfl rfl
      have Obl : Hid (Ob.length = 53) := by show _ = _; rw [← HOb.out]; exact ouL_len _ _ _ _
      rw [HOb.out]
      have Zb : Hid (Blk w3.heap.size 41 (ouL lo0 [] (.slice none 0 0) 0) (w3.alloc (.cells #[.int .i64 0, .int .i64 0, .int .i64 0, .int .i64 0, .int .i64 0, .int .i64 0, .int .i64 0, .slice none 0 0, .int .i64 0, .int .i64 0, .int .i64 0, .int .i64 0, .int .i64 0, .int .i64 0, .int .i64 0, .int .i64 0, .int .i64 0, .int .i64 0, .int .i64 0, .int .i64 0, .int .i64 0, .bool false, .int .i64 0, .int .i64 0, .int .i64 0, .int .i64 0, .int .i64 0, .int .i64 0, .int .i64 0, .int .i64 0, .int .i64 0, .int .i64 0, .int .i64 0, .int .i64 0, .int .i64 0, .int .i64 0, .int .i64 0, .int .i64 0, .int .i64 0, .int .i64 0, .int .i64 0, .int .i64 0, .int .i64 0, .bool false, .int .i64 0, .int .i64 0, .int .i64 0, .int .i64 0, .int .i64 0, .int .i64 0, .int .i64 0, .slice none 0 0, .int .i64 0] 41))) := Blk.new 41 (ouL lo0 [] (.slice none 0 0) 0) w3
      obtain ⟨Cb, hCb⟩ : ∃ C, w3.heap.size = C := ⟨_, rfl⟩
      have HCb : Hid (w3.heap.size = Cb) := hCb
      rw [hCb] at Zb
      clear hCb
      go_upto_region 12 with ((with_reducible refine LoK.at_store ?_); refine step_store rfl 41 _ _ rfl Cb 0 41 (ouL lo0 [] (.slice none 0 0) 0) Ob (by rw [← HCb.out]; rfl) rfl Zb.out (by rw [Obl.out, ouL_len]; exact Nat.le_refl _) Sb.out Obo.out ?_; intro w4 nb4 g4)
      simp only [Act.put]
      rw [HCb.out]
      have BO4 : Hid (Blk Cb 41 Ob w4) := by
        show Blk _ _ _ _
        rwa [store_all (by rw [Obl.out, ouL_len])] at nb4
      have W4 : Hid (Below w3.heap.size w3 w4) := below_row (below_alloc w3 _) g4 (by rw [HCb.out]; exact Nat.le_refl _)
      have hS0 : Blk Cb 41 Ob w4.drew ∧ Blk C9 24 (polL l (.slice (some ⟨g9, 0, none⟩) N9 c9)) w4.drew ∧ Blk (w.heap.size + 1) 26 [.int .i64 k, .int .i64 P, .int .i64 r, .int .i64 n, .int .i64 s, .int .i64 u] w4.drew ∧ Blk C7 24 (polL l (.slice (some ⟨g7, 0, none⟩) N7 c7)) w4.drew := ⟨BO4.out, (BR3.out.below W4.out).drewN 1, (BT3.out.below W4.out).drewN 1, (BQ3.out.below W4.out).drewN 1⟩
      have hB0 : Below w.heap.size w w4.drew := below_drewN (below_trans B3.out W4.out) 1
      have hO0 : OwnH w.heap.size w4.drew g7 N7 c7 hz := (OQ3.out.later W4.out).later (below_drewN (Below.refl _ _) 1)
      have hI0 : OwnH w.heap.size w4.drew g9 N9 c9 hz := (OI3.out.later W4.out).later (below_drewN (Below.refl _ _) 1)
      have hR0 : RdX w4.drew (.slice gd Nd cd) (opR id k P r n s u l hz) := (RX3.out.later W4.out).later (below_drewN (Below.refl _ _) 1)
      clear nb4 g4 BQ3 BR3 BT3 B3 OQ3 OI3 RX3 W4 Zb HCb BO4
      refine wp_region_held_drew (S := fun w' => Blk Cb 41 Ob w' ∧ Blk C9 24 (polL l (.slice (some ⟨g9, 0, none⟩) N9 c9)) w' ∧ Blk (w.heap.size + 1) 26 [.int .i64 k, .int .i64 P, .int .i64 r, .int .i64 n, .int .i64 s, .int .i64 u] w' ∧ Blk C7 24 (polL l (.slice (some ⟨g7, 0, none⟩) N7 c7)) w') (by kernel_rfl) hS0 (fun hH => ?_)
      generalize w4.drew = w5 at *
      refine wpAnyH_take (i := 0) (v := .agg (Ob : List Value).toArray) rfl (by kernel_rfl) (by kernel_rfl) (by kernel_rfl) (fun _ _ _ h => h) (yieldsIf_load_mid (by rfl) _ _ rfl (Cb) 0 rfl (Ob) _ (fun w' h => Blk.all (h.1)) Tryz.underlying41 rfl Sb.out) hH ?_
      try simp only [Act.put, List.getElem_toArray, List.getElem_cons_zero, List.setIfInBounds_toArray, List.set_cons_zero, List.set_cons_succ]
      refine wpAnyH_take (i := 1) (v := .agg (polL l (.slice (some ⟨g9, 0, none⟩) N9 c9) : List Value).toArray) rfl (by kernel_rfl) (by kernel_rfl) (by kernel_rfl) (fun _ _ _ h => h) (yieldsIf_load_mid (by rfl) _ _ rfl (C9) 0 rfl (polL l (.slice (some ⟨g9, 0, none⟩) N9 c9)) _ (fun w' h => Blk.all (h.2.1)) Tryz.underlying24 rfl (SZ.out _)) hH ?_
      try simp only [Act.put, List.getElem_toArray, List.getElem_cons_succ, List.getElem_cons_zero, List.setIfInBounds_toArray, List.set_cons_zero, List.set_cons_succ]
      refine wpAnyH_take (i := 2) (v := .int .i64 id) rfl (by kernel_rfl) (by kernel_rfl) (by kernel_rfl) (fun _ _ _ h => h) (Or.inl ⟨by rfl, fun w' h => by go_simp⟩) hH ?_
      try simp only [Act.put, List.getElem_toArray, List.getElem_cons_succ, List.getElem_cons_zero, List.setIfInBounds_toArray, List.set_cons_zero, List.set_cons_succ]
      refine wpAnyH_take (i := 3) (v := .agg ([.int .i64 k, .int .i64 P, .int .i64 r, .int .i64 n, .int .i64 s, .int .i64 u] : List Value).toArray) rfl (by kernel_rfl) (by kernel_rfl) (by kernel_rfl) (fun _ _ _ h => h) (yieldsIf_load_mid (by rfl) _ _ rfl (w.heap.size + 1) 0 rfl ([.int .i64 k, .int .i64 P, .int .i64 r, .int .i64 n, .int .i64 s, .int .i64 u]) _ (fun w' h => Blk.all (h.2.2.1)) Tryz.underlying26 rfl ST.out) hH ?_
      try simp only [Act.put, List.getElem_toArray, List.getElem_cons_succ, List.getElem_cons_zero, List.setIfInBounds_toArray, List.set_cons_zero, List.set_cons_succ]
      refine wpAnyH_ready (rs := [4]) (by kernel_rfl) (by simp) ?_
      refine AllReadyH.cons rfl (fun K hK => ?_) AllReadyH.nil
      go_simp
      refine (RO.out hz _ _ _ w5 LM.out hI0.rd).mono ?_
      rintro e w6 ⟨gb, Nb, cb, rfl, rx6, b6⟩
      have hS1 : (fun w' => Blk Cb 41 Ob w' ∧ Blk C9 24 (polL l (.slice (some ⟨g9, 0, none⟩) N9 c9)) w' ∧ Blk (w.heap.size + 1) 26 [.int .i64 k, .int .i64 P, .int .i64 r, .int .i64 n, .int .i64 s, .int .i64 u] w' ∧ Blk C7 24 (polL l (.slice (some ⟨g7, 0, none⟩) N7 c7)) w') w6 := ⟨hS0.1.below b6, hS0.2.1.below b6, hS0.2.2.1.below b6, hS0.2.2.2.below b6⟩
      have hB1 : Below w.heap.size w w6 := below_trans hB0 b6
      have hO1 := hO0.later b6
      have hI1 := hI0.later b6
      have hR1 := hR0.later b6
      refine hK.out _ _ hS1 (fun hH => ?_)
      refine wpAnyH_ready (rs := [5]) (by kernel_rfl) (by simp) ?_
      refine AllReadyH.cons rfl (fun K hK => ?_) AllReadyH.nil
      go_simp
      have SC : Calls Tryz.prog 6 #[.agg Ob.toArray, .agg (ouL { opL id k P r n s u l hz with pl := .slice gb Nb cb } [] (.slice none 0 0) (opE id k P r n s u l hz)).toArray] w6 fun e w2 => e = .returned (.bool true) ∧ Below w6.heap.size w6 w2 := by rw [← HOb.out]; exact SM.out hz _ _ w6 hR1 rx6
      refine SC.mono ?_
      rintro e w7 ⟨rfl, b7⟩
      have hS2 : (fun w' => Blk Cb 41 Ob w' ∧ Blk C9 24 (polL l (.slice (some ⟨g9, 0, none⟩) N9 c9)) w' ∧ Blk (w.heap.size + 1) 26 [.int .i64 k, .int .i64 P, .int .i64 r, .int .i64 n, .int .i64 s, .int .i64 u] w' ∧ Blk C7 24 (polL l (.slice (some ⟨g7, 0, none⟩) N7 c7)) w') w7 := ⟨hS1.1.below b7, hS1.2.1.below b7, hS1.2.2.1.below b7, hS1.2.2.2.below b7⟩
      have hB2 : Below w.heap.size w w7 := below_trans hB1 b7
      have hO2 := hO1.later b7
      have hI2 := hI1.later b7
      clear hS0 hS1 hR0 hR1 hO0 hO1 hI0 hI1 SC rx6
      refine hK.out _ _ hS2 (fun hH => ?_)
      try simp only [Act.put, List.getElem_toArray, List.getElem_cons_succ, List.getElem_cons_zero, List.setIfInBounds_toArray, List.set_cons_zero, List.set_cons_succ]
      refine wpAnyH_take (i := 6) (v := .bool true) rfl (by kernel_rfl) (by kernel_rfl) (by kernel_rfl) (fun _ _ _ h => h) (Or.inl ⟨by rfl, fun w' h => by go_simp⟩) hH ?_
      try simp only [Act.put, List.getElem_toArray, List.getElem_cons_succ, List.getElem_cons_zero, List.setIfInBounds_toArray, List.set_cons_zero, List.set_cons_succ]
      refine wpAnyH_take (i := 7) (v := .agg (polL l (.slice (some ⟨g7, 0, none⟩) N7 c7) : List Value).toArray) rfl (by kernel_rfl) (by kernel_rfl) (by kernel_rfl) (fun _ _ _ h => h) (yieldsIf_load_mid (by rfl) _ _ rfl (C7) 0 rfl (polL l (.slice (some ⟨g7, 0, none⟩) N7 c7)) _ (fun w' h => Blk.all (h.2.2.2)) Tryz.underlying24 rfl (SZ.out _)) hH ?_
      try simp only [Act.put, List.getElem_toArray, List.getElem_cons_succ, List.getElem_cons_zero, List.setIfInBounds_toArray, List.set_cons_zero, List.set_cons_succ]
      refine wpAnyH_take (i := 8) (v := .agg (polL l (.slice (some ⟨g9, 0, none⟩) N9 c9) : List Value).toArray) rfl (by kernel_rfl) (by kernel_rfl) (by kernel_rfl) (fun _ _ _ h => h) (yieldsIf_load_mid (by rfl) _ _ rfl (C9) 0 rfl (polL l (.slice (some ⟨g9, 0, none⟩) N9 c9)) _ (fun w' h => Blk.all (h.2.1)) Tryz.underlying24 rfl (SZ.out _)) hH ?_
      try simp only [Act.put, List.getElem_toArray, List.getElem_cons_succ, List.getElem_cons_zero, List.setIfInBounds_toArray, List.set_cons_zero, List.set_cons_succ]
      refine wpAnyH_ready (rs := [9]) (by kernel_rfl) (by simp) ?_
      refine AllReadyH.cons rfl (fun K hK => ?_) AllReadyH.nil
      go_simp
      refine (LF.out hz g7 N7 c7 _ _ w7 LM.out hO2 hI2.rd).mono ?_
      rintro e w8 ⟨rfl, b8⟩
      have hS3 : (fun w' => Blk Cb 41 Ob w' ∧ Blk C9 24 (polL l (.slice (some ⟨g9, 0, none⟩) N9 c9)) w' ∧ Blk (w.heap.size + 1) 26 [.int .i64 k, .int .i64 P, .int .i64 r, .int .i64 n, .int .i64 s, .int .i64 u] w' ∧ Blk C7 24 (polL l (.slice (some ⟨g7, 0, none⟩) N7 c7)) w') w8 := ⟨hS2.1.below b8, hS2.2.1.below b8, hS2.2.2.1.below b8, hS2.2.2.2.below b8⟩
      have hB3 : Below w.heap.size w w8 := below_trans hB2 b8
      refine hK.out _ _ hS3 (fun hH => ?_)
      try simp only [Act.put, List.getElem_toArray, List.getElem_cons_succ, List.getElem_cons_zero, List.setIfInBounds_toArray, List.set_cons_zero, List.set_cons_succ]
      refine wpAnyH_take (i := 10) (v := .bool true) rfl (by kernel_rfl) (by kernel_rfl) (by kernel_rfl) (fun _ _ _ h => h) (Or.inl ⟨by rfl, fun w' h => by go_simp⟩) hH ?_
      try simp only [Act.put, List.getElem_toArray, List.getElem_cons_succ, List.getElem_cons_zero, List.setIfInBounds_toArray, List.set_cons_zero, List.set_cons_succ]
      refine wpAnyH_take (i := 11) (v := .bool true) rfl (by kernel_rfl) (by kernel_rfl) (by kernel_rfl) (fun _ _ _ h => h) (Or.inl ⟨by rfl, fun w' h => by go_simp⟩) hH ?_
      try simp only [Act.put, List.getElem_toArray, List.getElem_cons_succ, List.getElem_cons_zero, List.setIfInBounds_toArray, List.set_cons_zero, List.set_cons_succ]
      refine wpAnyH_done (by kernel_rfl) ?_ _
      try simp only [Act.put, List.getElem_toArray, List.getElem_cons_succ, List.getElem_cons_zero, List.setIfInBounds_toArray, List.set_cons_zero, List.set_cons_succ]
      have B8 : Hid (Below w.heap.size w w8) := hB3
      clear hH hK hS2 hS3 hB0 hB1 hB2 hB3 hO2 hI2 b6 b7 b8
      go_wp2_with fail
      go_ret
      exact ⟨rfl, B8.out⟩
end Go.Proofs.YtgdmkcbbomfmdaaGreatDoor
