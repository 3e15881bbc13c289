/-
  Ours: Book.ids, walked (gen_nwids.py: THE SEAT's OWN NUMBERS).
-/
import Derived.Test.YtcnhcdlbippjoaaNwBk2
import Derived.Test.YtcnhcdlbippjoaaRegZ
import Derived.Deep.CutRange
namespace Go.Proofs.Ytcnhcdlbippjoaa
open Go.RowKit NwM
set_option linter.unusedSimpArgs false
set_option maxRecDepth 40000 in
set_option maxHeartbeats 8000000 in
theorem ids_at (Q N : Nat) (W M : Nat → Prop) (xs : List Int) (a : Option Addr) (n c base : Nat) (w : World) (h : BkA Q N W M w) (hr : RowV 3 base w (.slice a n c) (xs.map iv)) (hb : base ≤ w.heap.size) (hx : ∀ g, (Value.slice a n c).ownBlock = some g → ¬ W g ∧ ¬ M g) (hN : N ≤ 1000000000000) (hl : xs.length ≤ 1000000000000) :
    Calls Try.prog 22 #[.pointer (some ⟨Q, 0, none⟩), .slice a n c] w fun e w' => e = .returned (.tuple #[]) ∧ BkP Q (N + 1) W M (fun g => (Value.slice a n c).ownBlock = some g) w w' := by
  obtain ⟨iS, hiS, hs0, hs1, hs2⟩ := info_parts infoS
  obtain ⟨iI, hiI, hi0, hi1, hi2⟩ := info_parts infoI
  obtain ⟨v, V, h1, h2, h3⟩ := h.ex
  have hmw := h.mw
  have HN : Hid (N ≤ 1000000000000 ∧ base ≤ w.heap.size ∧ ∀ k, k < 5 → (V k).length ≤ N) := ⟨hN, hb, h3⟩
  have hn : xs.length = n := by
    obtain ⟨_, _, e, -⟩ := (RowV.rd hr).len
    injection e with _ e _
    rw [e, List.length_map]
  have HXL : Hid (xs.length = n) := hn
  rw [hn] at hl
  have HX : Hid (∀ g, (Value.slice a n c).ownBlock = some g → ¬ W g ∧ ¬ M g) := hx
  have HB : Hid (BkR Q W v V w ∧ BkC M V w ∧ ∀ g, M g → ¬ W g) := ⟨h1, h2, hmw⟩
  have HR : Hid (RowV 3 base w (.slice a n c) (xs.map iv)) := hr
  obtain ⟨a0, c0, ev0, -, -⟩ := (RowV.rd (h1.row 0 (by omega))).len
  have q0 := h1.cell (k := 0) (by omega)
  rw [ev0] at q0
  have ltQ := h1.lt Q h1.wq
  obtain ⟨NA, hNA⟩ : ∃ NA, (V 0).length = NA := ⟨_, rfl⟩
  have hNAle : NA ≤ 1000000000000 := by have := h3 0 (by omega); omega
  have HNA : Hid ((V 0).length = NA) := hNA
  rw [hNA] at q0
  clear h h1 h2 h3 hmw hN hb hn hx hr ev0 hNA
  go_enter Try.func22, Try.ntmps22
  go_wp2_with fail
  go_loopw [5] (fun vk wr => ∃ k : Nat, vk = .int .i64 (k : Int) ∧ k ≤ n ∧ Hid (RowV 3 base wr (.slice a n c) (List.replicate k (.int .i64 (-7 - (NA : Int))) ++ (xs.map iv).drop k) ∧ Kp (fun g => (Value.slice a n c).ownBlock = some g) w wr)) (fun vk _ => n - (intOf vk).toNat)
  case atStart => exact ⟨0, rfl, by omega, ⟨by simpa using HR.out, Kp.refl _ _⟩⟩
  case round =>
    clear HR
    obtain ⟨k, rfl, hk, HR⟩ := hrel
    by_cases hlt : (k : Int) < (n : Int)
    · have hlen : (List.replicate k (Value.int .i64 (-7 - (NA : Int))) ++ (xs.map iv).drop k).length = n := by rw [List.length_append, List.length_replicate, List.length_drop, List.length_map, HXL.out]; omega
      obtain ⟨g, cap, e1, hcap, HC, hfz⟩ := RowV.own HR.out.1 (by rw [hlen]; omega)
      rw [hlen] at e1 hcap
      injection e1 with e1 _ e3
      subst e1 e3
      obtain ⟨u, hu⟩ : ∃ u, wr.cell? ⟨g, k, none⟩ = some u := ⟨_, HC k (by rw [hlen]; omega)⟩
      have fz := hfz k
      have PT := rowV_set (i := k) (u := .int .i64 (-7 - (NA : Int))) hlen HR.out.1
      rw [rep_put _ _ (by rw [List.length_map, HXL.out]; omega)] at PT
      have R3 : Hid (RowV 3 base (wr.setCell ⟨g, k, none⟩ (.int .i64 (-7 - (NA : Int)))) (.slice (some ⟨g, 0, none⟩) n c) (List.replicate (k + 1) (.int .i64 (-7 - (NA : Int))) ++ (xs.map iv).drop (k + 1)) ∧ Kp (fun g' => (Value.slice (some ⟨g, 0, none⟩) n c).ownBlock = some g') w (wr.setCell ⟨g, k, none⟩ (.int .i64 (-7 - (NA : Int))))) := ⟨PT.1, HR.out.2.trans (Kp.of_grown PT.2) (fun q _ e => by rw [← e]; rfl)⟩
      clear PT HC hfz hlen HR
      go_wp2_with fail
      go_roundw
      case rel => exact ⟨k + 1, by go_num, by omega, R3⟩
      case measure => simp [intOf] <;> omega
    · obtain rfl : k = n := by omega
      have R1 : Hid (RowV 3 base wr (.slice a k c) (List.replicate k (.int .i64 (-7 - (NA : Int)))) ∧ Kp (fun g => (Value.slice a k c).ownBlock = some g) w wr) := by
        refine ⟨?_, HR.out.2⟩
        have := HR.out.1
        rw [List.drop_of_length_le (by rw [List.length_map, HXL.out]; exact Nat.le_refl _), List.append_nil] at this
        exact this
      have B1 : Hid (BkR Q W v V wr ∧ BkC M V wr ∧ ∀ g, M g → ¬ W g) := ⟨HB.out.1.kp R1.out.2 (fun g hg e => (HX.out g e).1 hg), HB.out.2.1.kp R1.out.2 (fun g hg e => (HX.out g e).2 hg), HB.out.2.2⟩
      have HNB : Hid (N ≤ 1000000000000 ∧ base ≤ wr.heap.size ∧ ∀ k, k < 5 → (V k).length ≤ N) := ⟨HN.out.1, Nat.le_trans HN.out.2.1 R1.out.2.size, HN.out.2.2⟩
      have q0 := B1.out.1.cell (k := 0) (by omega)
      have ltQ := B1.out.1.lt Q B1.out.1.wq
      have own0 := B1.out.1.row 0 (by omega)
      have fzQ := B1.out.1.blk.fz
      have l1 : (V 0).length + 1 ≤ maxLen := by rw [HNA.out]; unfold maxLen; omega
      have l2 : ((V 0).length + 1) * 24 ≤ 140737488355328 := by rw [HNA.out]; omega
      obtain ⟨v0, hv0⟩ : ∃ v0, v 0 = v0 := ⟨_, rfl⟩
      have HV0 : Hid (v 0 = v0) := hv0
      rw [hv0] at q0 own0
      clear hv0 HR HB HN
      have hat0 : ∀ (g2 cap2 : Nat), (v0.ownBlock = some g2 ∨ wr.heap.size ≤ g2) → ∀ q, (Value.slice (some ⟨g2, 0, none⟩) ((V 0).length + 1) cap2).ownBlock = some q → v0.ownBlock = some q ∨ wr.heap.size ≤ q := fun g2 cap2 hh q e => by
        have : g2 = q := by simpa [Value.ownBlock] using e
        subst this
        exact hh
      have PU : Hid (∀ (g2 cap2 : Nat) (w2 : World), w2.ownsRow 0 62 1 (.slice (some ⟨g2, 0, none⟩) ((V 0).length + 1) cap2) ((V 0).length + 1) (V 0 ++ [.slice a k c]) → wr.grownBy w2 v0.ownBlock → (v0.ownBlock = some g2 ∨ wr.heap.size ≤ g2) →
          BkR Q (fun q => W q ∨ (Value.slice (some ⟨g2, 0, none⟩) ((V 0).length + 1) cap2).ownBlock = some q) (upd v 0 (.slice (some ⟨g2, 0, none⟩) ((V 0).length + 1) cap2)) (upd V 0 (V 0 ++ [.slice a k c])) (w2.setCell ⟨Q, 0, none⟩ (.slice (some ⟨g2, 0, none⟩) ((V 0).length + 1) cap2)) ∧ Kp W wr (w2.setCell ⟨Q, 0, none⟩ (.slice (some ⟨g2, 0, none⟩) ((V 0).length + 1) cap2)) ∧ w2.cell? ⟨Q, 0, none⟩ = some v0 ∧ w2.frozen? ⟨Q, 0, none⟩ = false) := fun g2 cap2 w2 r2 gr2 hh => by
        have := B1.out.1.push (k := 0) (by omega) (v' := .slice (some ⟨g2, 0, none⟩) ((V 0).length + 1) cap2) (x := .slice a k c) (by show RowV 62 0 _ _ _; rw [RowV, List.length_append]; exact r2) (by rw [HV0.out]; exact gr2) (by rw [HV0.out]; exact hat0 g2 cap2 hh)
        rw [HV0.out] at this
        exact this
      clear hat0
      rw [HNA.out] at l1 l2
      go_wp2_with (at_builtin; refine wpList_pushR rfl (.tmp 26) (.tmp 28) 39 rfl 62 iS (.slice none 0 0) 1 24 Try.underlying39 hiS hs0 hs1 hs2 rfl (by decide) 0 v0 (V 0).length (V 0) [.slice a k c] rfl (fun u hu => by simp at hu; subst hu; rfl) rfl own0 (Nat.zero_le _) rfl (by rw [HNA.out]; exact l1) (by rw [HNA.out]; exact l2) ?_; intro g2 cap2 w2 r2 gr2 hat2; obtain ⟨P1, P2, P3, P4⟩ := PU.out g2 cap2 w2 r2 gr2 hat2)
      have NX : Hid (∀ g, (Value.slice a k c).ownBlock = some g → ¬ W g ∧ ¬ M g ∧ ¬ (Value.slice (some ⟨g2, 0, none⟩) (NA + 1) cap2).ownBlock = some g) := fun g e => ⟨(HX.out g e).1, (HX.out g e).2, fun e2 => by
        have e3 : g2 = g := by simpa [Value.ownBlock] using e2
        rcases hat2 with z | z
        · rw [← HV0.out] at z
          exact (HX.out g e).1 (e3 ▸ (B1.out.1.wv 0 (by omega) g2 z).1)
        · have := R1.out.1.block_lt e; omega⟩
      rw [HNA.out] at P1 P2
      have B3 : Hid (BkR Q (fun q => W q ∨ (Value.slice (some ⟨g2, 0, none⟩) (NA + 1) cap2).ownBlock = some q) (upd v 0 (.slice (some ⟨g2, 0, none⟩) (NA + 1) cap2)) (upd V 0 (V 0 ++ [.slice a k c])) (w2.setCell ⟨Q, 0, none⟩ (.slice (some ⟨g2, 0, none⟩) (NA + 1) cap2)).drew ∧ BkC M V (w2.setCell ⟨Q, 0, none⟩ (.slice (some ⟨g2, 0, none⟩) (NA + 1) cap2)).drew ∧ RowV 3 base (w2.setCell ⟨Q, 0, none⟩ (.slice (some ⟨g2, 0, none⟩) (NA + 1) cap2)).drew (.slice a k c) (List.replicate k (.int .i64 (-7 - (NA : Int)))) ∧ Kp W wr (w2.setCell ⟨Q, 0, none⟩ (.slice (some ⟨g2, 0, none⟩) (NA + 1) cap2)).drew ∧ base ≤ (w2.setCell ⟨Q, 0, none⟩ (.slice (some ⟨g2, 0, none⟩) (NA + 1) cap2)).drew.heap.size) :=
        ⟨P1.below (Below.drew (Below.refl _ _)), (B1.out.2.1.kp P2 (fun g hg => B1.out.2.2 g hg)).below (Below.drew (Below.refl _ _)), RowV.later (R1.out.1.kp P2 (fun g e => (HX.out g e).1)) (Below.drew (Below.refl _ _)), P2.trans (Kp.of_below (Below.drew (Below.refl _ _)) (fun _ => False)) (fun _ _ z => z.elim), Nat.le_trans HNB.out.2.1 P2.size⟩
      have DM : Hid (∀ g, M g → ¬ W g ∧ ¬ (Value.slice (some ⟨g2, 0, none⟩) (NA + 1) cap2).ownBlock = some g) := fun g hg => ⟨B1.out.2.2 g hg, fun e2 => by
        have e3 : g2 = g := by simpa [Value.ownBlock] using e2
        rcases hat2 with z | z
        · rw [← HV0.out] at z
          exact B1.out.2.2 g hg (e3 ▸ (B1.out.1.wv 0 (by omega) g2 z).1)
        · have := B1.out.2.1.lt g hg; omega⟩
      have HG2 : Hid (W g2 ∨ wr.heap.size ≤ g2) := by
        rcases hat2 with z | z
        · rw [← HV0.out] at z
          exact .inl (B1.out.1.wv 0 (by omega) g2 z).1
        · exact .inr z
      have HLA : Hid ((V 1).length = NA) := by show _ = _; rw [B1.out.2.1.la]; exact HNA.out
      have HV1 : Hid ((upd v 0 (.slice (some ⟨g2, 0, none⟩) (NA + 1) cap2)) 1 = v 1 ∧ (upd V 0 (V 0 ++ [.slice a k c])) 1 = V 1) := ⟨rfl, rfl⟩
      have CV : Hid (∀ j, (upd V 0 (V 0 ++ [.slice a k c])) j = if j = 0 then V 0 ++ [.slice a k c] else V j) := fun j => rfl
      try rw [HNA.out]
      clear P1 P2 P3 P4 PU r2 gr2 hat2 own0 q0 l1 l2 B1 fzQ
      generalize upd v 0 (.slice (some ⟨g2, 0, none⟩) (NA + 1) cap2) = vv at *
      generalize upd V 0 (V 0 ++ [.slice a k c]) = VV at *
      have ROWS : Hid (∀ k, k < 5 → (VV k).length ≤ N + 1) := fun j hj => by
        rw [CV.out j]
        split
        · rw [List.length_append]; have := HNB.out.2.2 0 (by omega); simp; omega
        · have := HNB.out.2.2 j hj; omega
      obtain ⟨v1, hv1⟩ : ∃ v1, vv 1 = v1 := ⟨_, rfl⟩
      have HVV : Hid (vv 1 = v1 ∧ VV 1 = V 1) := ⟨hv1, HV1.out.2⟩
      clear hv1 HV1 HV0
      generalize hw3 : w2.setCell ⟨Q, 0, none⟩ (.slice (some ⟨g2, 0, none⟩) (NA + 1) cap2) = w3 at *
      clear hw3
      have hH : Hid (w3.drew.cell? ⟨Q, 1, none⟩ = some v1) := by have := B3.out.1.cell (k := 1) (by omega); rw [HVV.out.1] at this; exact this
      refine wp_region_Z (S := fun w' => w'.cell? ⟨Q, 1, none⟩ = some v1) 14 (by kernel_rfl) ?_
      generalize w3.drew = w4 at *
      refine wpAnyZ_take (i := 0) (oi := { dst := some 32, op := Op.move (Operand.tmp 0), type := 38, pos := "law.go:98", after := #[], guard := none }) (v := .pointer (some ⟨Q, 0, none⟩)) rfl (by kernel_rfl) (by kernel_rfl) (by kernel_rfl) (by decide) (fun _ _ _ h => h) (Or.inl ⟨by rfl, fun w' _ => by go_simp⟩) (fun _ => hH.out) ?_
      try simp only [Act.put, List.setIfInBounds_toArray, List.set_cons_zero, List.set_cons_succ]
      refine wpAnyZ_take (i := 1) (oi := { dst := some 33, op := Op.move (Operand.tmp 0), type := 38, pos := "law.go:98", after := #[], guard := none }) (v := .pointer (some ⟨Q, 0, none⟩)) rfl (by kernel_rfl) (by kernel_rfl) (by kernel_rfl) (by decide) (fun _ _ _ h => h) (Or.inl ⟨by rfl, fun w' _ => by go_simp⟩) (fun _ => hH.out) ?_
      try simp only [Act.put, List.setIfInBounds_toArray, List.set_cons_zero, List.set_cons_succ]
      refine wpAnyZ_take (i := 2) (oi := { dst := some 34, op := Op.nilCheck (Operand.tmp 33), type := 0, pos := "law.go:98", after := #[{ on := 1, ground := Ground.data }], guard := none }) (v := .pointer (some ⟨Q, 0, none⟩)) rfl (by kernel_rfl) (by kernel_rfl) (by kernel_rfl) (by decide) (fun _ _ _ h => h) (Or.inl ⟨by rfl, fun w' _ => by go_simp⟩) (fun _ => hH.out) ?_
      try simp only [Act.put, List.setIfInBounds_toArray, List.set_cons_zero, List.set_cons_succ]
      refine wpAnyZ_take (i := 3) (oi := { dst := some 35, op := Op.fieldAddr 43 (Operand.tmp 34) 1, type := 0, pos := "law.go:98", after := #[{ on := 2, ground := Ground.data }], guard := none }) (v := .pointer (some ⟨Q, 1, none⟩)) rfl (by kernel_rfl) (by kernel_rfl) (by kernel_rfl) (by decide) (fun _ _ _ h => h) (Or.inl ⟨by rfl, fun w' _ => by go_simp⟩) (fun _ => hH.out) ?_
      try simp only [Act.put, List.setIfInBounds_toArray, List.set_cons_zero, List.set_cons_succ]
      refine wpAnyZ_held (i := 4) (oi := { dst := some 36, op := Op.load 39 (Operand.tmp 35), type := 39, pos := "law.go:98", after := #[{ on := 3, ground := Ground.data }], guard := none }) (v := v1) rfl (by kernel_rfl) (by kernel_rfl) (by kernel_rfl) (by decide) (fun _ _ _ h => h) (by kernel_rfl) (by kernel_rfl) (Or.inl ⟨by rfl, fun w' hs => by go_simp⟩) (hH.out) ?_
      try simp only [Act.put, List.setIfInBounds_toArray, List.set_cons_zero, List.set_cons_succ]
      refine wpAnyZ_take (i := 5) (oi := { dst := some 37, op := Op.move (Operand.tmp 1), type := 62, pos := "law.go:98", after := #[], guard := none }) (v := .slice a k c) rfl (by kernel_rfl) (by kernel_rfl) (by kernel_rfl) (by decide) (fun _ _ _ h => h) (Or.inl ⟨by rfl, fun w' _ => by go_simp⟩) (fun _ => hH.out) ?_
      try simp only [Act.put, List.setIfInBounds_toArray, List.set_cons_zero, List.set_cons_succ]
      refine wpAnyZ_take (i := 6) (oi := { dst := some 38, op := Op.move (Operand.tmp 4), type := 3, pos := "law.go:98", after := #[], guard := none }) (v := .int .i64 (-7 - (NA : Int))) rfl (by kernel_rfl) (by kernel_rfl) (by kernel_rfl) (by decide) (fun _ _ _ h => h) (Or.inl ⟨by rfl, fun w' _ => by go_simp⟩) (fun _ => hH.out) ?_
      try simp only [Act.put, List.setIfInBounds_toArray, List.set_cons_zero, List.set_cons_succ]
      refine wpAnyZ_take (i := 7) (oi := { dst := some 39, op := Op.move (Operand.tmp 4), type := 3, pos := "law.go:98", after := #[], guard := none }) (v := .int .i64 (-7 - (NA : Int))) rfl (by kernel_rfl) (by kernel_rfl) (by kernel_rfl) (by decide) (fun _ _ _ h => h) (Or.inl ⟨by rfl, fun w' _ => by go_simp⟩) (fun _ => hH.out) ?_
      try simp only [Act.put, List.setIfInBounds_toArray, List.set_cons_zero, List.set_cons_succ]
      refine wpAnyZ_only (i := 8) (o := { dst := some 40, op := Op.buildSlice 62 2 #[(0, Operand.tmp 38), (1, Operand.tmp 39)], type := 62, pos := "law.go:98", after := #[{ on := 6, ground := Ground.data }, { on := 7, ground := Ground.data }], guard := none }) (by kernel_rfl) rfl (fun Kx hK => ?_)
      go_simp
      have hA : Hid ((w4.alloc (.cells #[.int .i64 (-7 - (NA : Int)), .int .i64 (-7 - (NA : Int))] 3)).cell? ⟨Q, 1, none⟩ = some v1) := ((below_alloc w4 _).cell (p := ⟨Q, 1, none⟩) (World.block_lt_of_cell? _ _ hH.out)).trans hH.out
      refine hK.out _ _ (fun _ => hA.out) ?_
      clear hK
      try simp only [Act.put, List.setIfInBounds_toArray, List.set_cons_zero, List.set_cons_succ]
      refine wpAnyZ_only (i := 9) (o := { dst := some 41, op := Op.call { callee := Callee.builtin Builtin.append, args := #[Operand.tmp 37, Operand.tmp 40], argTypes := #[62, 62] }, type := 62, pos := "law.go:98", after := #[{ on := 5, ground := Ground.data }, { on := 8, ground := Ground.data }], guard := none }) (by kernel_rfl) rfl (fun Kx hK => ?_)
      refine step_append_old (P := Try.prog) _ rfl (.tmp 37) (.tmp 40) 62 rfl base 3 iI (.int .i64 0) 1 8 Try.underlying62 hiI hi0 hi1 hi2 rfl (by decide) (.slice a k c) k (List.replicate k (.int .i64 (-7 - (NA : Int)))) rfl (by have := RowV.later B3.out.2.2.1 (below_alloc w4 (.cells #[.int .i64 (-7 - (NA : Int)), .int .i64 (-7 - (NA : Int))] 3)); rw [RowV, List.length_replicate] at this; exact this) ⟨w4.heap.size, 0, none⟩ 2 2 [.int .i64 (-7 - (NA : Int)), .int .i64 (-7 - (NA : Int))] rfl rfl (World.news_of_block (cs := #[.int .i64 (-7 - (NA : Int)), .int .i64 (-7 - (NA : Int))]) (t := 3) (fr := (0, 0)) (MapKept.heap_alloc w4 _).1) (fun u hu => by simp at hu; subst hu; rfl) (by decide) (by unfold maxLen; omega) (by omega) (by have := B3.out.2.2.2.2; have := (below_alloc w4 (.cells #[.int .i64 (-7 - (NA : Int)), .int .i64 (-7 - (NA : Int))] 3)).size; omega) _ rfl ?_
      intro gl capl w5 r5 g5 f5 lt5
      have k5 : Kp (fun g => (Value.slice a k c).ownBlock = some g) w4 w5 := ((Kp.of_below (below_alloc w4 (.cells #[.int .i64 (-7 - (NA : Int)), .int .i64 (-7 - (NA : Int))] 3)) (fun g => (Value.slice a k c).ownBlock = some g)).trans (Kp.of_grown g5) (fun _ _ z => z))
      have RB : Hid (RowV 3 base w5 (.slice (some ⟨gl, 0, none⟩) (k + 2) capl) (List.replicate (k + 2) (.int .i64 (-7 - (NA : Int))))) := by
        show RowV _ _ _ _ _
        rw [RowV, List.length_replicate, ← List.replicate_append_replicate]
        exact r5
      have KLW : Hid (KV w5 (.int .i64 (-7 - (NA : Int))) (.slice a k c)) := by
        rcases f5 with e | ⟨_, g6⟩
        · refine ⟨a, k, c, rfl, by omega, ?_⟩
          rw [e]
          have := Rd.cut (k := k) (RowV.rd RB.out) (by omega)
          rw [List.take_replicate, Nat.min_eq_left (by omega)] at this
          exact this
        · exact ⟨a, k, c, rfl, by omega, RowV.rd (RowV.later (RowV.later B3.out.2.2.1 (below_alloc w4 _)) (below_none g6))⟩
      have GL : Hid ((Value.slice a k c).ownBlock = some gl ∨ w4.heap.size ≤ gl) := by
        rcases f5 with e | ⟨e, _⟩
        · left; rw [e]; rfl
        · right; rw [e]; have := (below_alloc w4 (.cells #[.int .i64 (-7 - (NA : Int)), .int .i64 (-7 - (NA : Int))] 3)).size; omega
      have B5 : Hid (BkR Q (fun q => W q ∨ (Value.slice (some ⟨g2, 0, none⟩) (NA + 1) cap2).ownBlock = some q) vv VV w5 ∧ BkC M V w5 ∧ Kp (fun g => (Value.slice a k c).ownBlock = some g) w4 w5) := ⟨B3.out.1.kp k5 (fun g hg e => hg.elim (NX.out g e).1 (NX.out g e).2.2), B3.out.2.1.kp k5 (fun g hg e => (NX.out g e).2.1 hg), k5⟩
      have hB : Hid (w5.cell? ⟨Q, 1, none⟩ = some v1) := by have := B5.out.1.cell (k := 1) (by omega); rw [HVV.out.1] at this; exact this
      clear r5 g5 f5 k5 hA
      refine hK.out _ _ (fun _ => hB.out) ?_
      clear hK
      try simp only [Act.put, List.setIfInBounds_toArray, List.set_cons_zero, List.set_cons_succ]
      refine wpAnyZ_only (i := 10) (o := { dst := some 42, op := Op.buildSlice 39 1 #[(0, Operand.tmp 41)], type := 39, pos := "law.go:98", after := #[{ on := 9, ground := Ground.data }], guard := none }) (by kernel_rfl) rfl (fun Kx hK => ?_)
      go_simp
      have hC : Hid ((w5.alloc (.cells #[.slice (some ⟨gl, 0, none⟩) (k + 2) capl] 62)).cell? ⟨Q, 1, none⟩ = some v1) := ((below_alloc w5 _).cell (p := ⟨Q, 1, none⟩) (World.block_lt_of_cell? _ _ hB.out)).trans hB.out
      refine hK.out _ _ (fun _ => hC.out) ?_
      clear hK
      try simp only [Act.put, List.setIfInBounds_toArray, List.set_cons_zero, List.set_cons_succ]
      refine wpAnyZ_only (i := 11) (o := { dst := some 43, op := Op.call { callee := Callee.builtin Builtin.append, args := #[Operand.tmp 36, Operand.tmp 42], argTypes := #[39, 39] }, type := 39, pos := "law.go:98", after := #[{ on := 4, ground := Ground.data }, { on := 10, ground := Ground.data }, { on := 9, ground := Ground.chain }], guard := none }) (by kernel_rfl) rfl (fun Kx hK => ?_)
      have own1 : RowV 62 0 w5 v1 (V 1) := by have := B5.out.1.row 1 (by omega); rw [HVV.out.1, HVV.out.2] at this; exact this
      refine op_pushR rfl (.tmp 36) (.tmp 42) 39 rfl 62 iS (.slice none 0 0) 24 Try.underlying39 hiS hs0 hs1 hs2 rfl 0 v1 (V 1) (.slice (some ⟨gl, 0, none⟩) (k + 2) capl) rfl rfl own1 (Nat.zero_le _) rfl (by rw [HLA.out]; unfold maxLen; omega) (by rw [HLA.out]; omega) ?_
      intro a7 n7 c7 w7 r7 g7 hat7
      obtain ⟨P1, P2, P3, P4⟩ := B5.out.1.push (k := 1) (by omega) (v' := .slice a7 n7 c7) (x := .slice (some ⟨gl, 0, none⟩) (k + 2) capl) (by rw [HVV.out.2]; exact r7) (by rw [HVV.out.1]; exact g7) (by rw [HVV.out.1]; exact hat7)
      rw [HVV.out.1] at P3
      clear own1
      refine hK.out _ _ (fun _ => P3) ?_
      clear hK
      try simp only [Act.put, List.setIfInBounds_toArray, List.set_cons_zero, List.set_cons_succ]
      refine wpAnyZ_take (i := 12) (oi := { dst := some 44, op := Op.nilCheck (Operand.tmp 32), type := 0, pos := "law.go:98", after := #[{ on := 0, ground := Ground.data }, { on := 0, ground := Ground.phase }, { on := 1, ground := Ground.phase }, { on := 2, ground := Ground.phase }, { on := 3, ground := Ground.phase }, { on := 4, ground := Ground.phase }, { on := 5, ground := Ground.phase }, { on := 6, ground := Ground.phase }, { on := 7, ground := Ground.phase }, { on := 8, ground := Ground.phase }, { on := 9, ground := Ground.phase }, { on := 10, ground := Ground.phase }, { on := 11, ground := Ground.phase }], guard := none }) (v := .pointer (some ⟨Q, 0, none⟩)) rfl (by kernel_rfl) (by kernel_rfl) (by kernel_rfl) (by decide) (fun _ _ _ h => h) (Or.inl ⟨by rfl, fun w' _ => by go_simp⟩) (fun _ => P3) ?_
      try simp only [Act.put, List.setIfInBounds_toArray, List.set_cons_zero, List.set_cons_succ]
      refine wpAnyZ_take (i := 13) (oi := { dst := some 45, op := Op.fieldAddr 43 (Operand.tmp 44) 1, type := 0, pos := "law.go:98", after := #[{ on := 12, ground := Ground.data }, { on := 0, ground := Ground.phase }, { on := 1, ground := Ground.phase }, { on := 2, ground := Ground.phase }, { on := 3, ground := Ground.phase }, { on := 4, ground := Ground.phase }, { on := 5, ground := Ground.phase }, { on := 6, ground := Ground.phase }, { on := 7, ground := Ground.phase }, { on := 8, ground := Ground.phase }, { on := 9, ground := Ground.phase }, { on := 10, ground := Ground.phase }, { on := 11, ground := Ground.phase }], guard := none }) (v := .pointer (some ⟨Q, 1, none⟩)) rfl (by kernel_rfl) (by kernel_rfl) (by kernel_rfl) (by decide) (fun _ _ _ h => h) (Or.inl ⟨by rfl, fun w' _ => by go_simp⟩) (fun _ => P3) ?_
      try simp only [Act.put, List.setIfInBounds_toArray, List.set_cons_zero, List.set_cons_succ]
      refine wpAnyZ_only (i := 14) (o := { dst := none, op := Op.store 39 (Operand.tmp 45) (Operand.tmp 43), type := 0, pos := "law.go:98", after := #[{ on := 13, ground := Ground.data }, { on := 11, ground := Ground.data }, { on := 11, ground := Ground.chain }, { on := 0, ground := Ground.phase }, { on := 1, ground := Ground.phase }, { on := 2, ground := Ground.phase }, { on := 3, ground := Ground.phase }, { on := 4, ground := Ground.phase }, { on := 5, ground := Ground.phase }, { on := 6, ground := Ground.phase }, { on := 7, ground := Ground.phase }, { on := 8, ground := Ground.phase }, { on := 9, ground := Ground.phase }, { on := 10, ground := Ground.phase }, { on := 11, ground := Ground.phase }], guard := none }) (by kernel_rfl) rfl (fun Kx hK => ?_)
      have lt7 := World.block_lt_of_cell? _ _ P3
      go_simp
      refine hK.out _ _ (fun h => nomatch (show true = false from h)) ?_
      clear hK
      try simp only [Act.put, List.setIfInBounds_toArray, List.set_cons_zero, List.set_cons_succ]
      refine wpAnyZ_done (by kernel_rfl) ?_ _
      have FIN : Hid (BkP Q (N + 1) W M (fun g => (Value.slice a k c).ownBlock = some g) w (w7.setCell ⟨Q, 1, none⟩ (.slice a7 n7 c7))) := by
        have C7 := B5.out.2.1.kp P2 (fun g hg e => e.elim (DM.out g hg).1 (DM.out g hg).2)
        have nX : ∀ g, (Value.slice a k c).ownBlock = some g → ¬ (W g ∨ (Value.slice (some ⟨g2, 0, none⟩) (NA + 1) cap2).ownBlock = some g) := fun g e z => z.elim (NX.out g e).1 (NX.out g e).2.2
        have ngl : ¬ (W gl ∨ (Value.slice (some ⟨g2, 0, none⟩) (NA + 1) cap2).ownBlock = some gl) := by
          rcases GL.out with z | z
          · exact nX gl z
          · exact fun y => by have := B3.out.1.lt gl y; omega
        have K7 := KLW.out.kp P2 (fun g e => nX g e)
        have K8 : KV w5 (.int .i64 (-7 - (NA : Int))) (.slice (some ⟨gl, 0, none⟩) (k + 2) capl) := ⟨_, _, _, rfl, by omega, RowV.rd RB.out⟩
        have K9 := K8.kp P2 (fun g e => by
          have : gl = g := by simpa [Value.ownBlock] using e
          subst this
          exact ngl)
        have sz4 : wr.heap.size ≤ w4.heap.size := B3.out.2.2.2.1.size
        have sz0 : w.heap.size ≤ wr.heap.size := R1.out.2.size
        have sz5 : w4.heap.size ≤ w5.heap.size := B5.out.2.2.size
        have szl := RB.out.block_lt (g := gl) rfl
        have szn := P2.size
        have hlX : ∀ g, (Value.slice a k c).ownBlock = some g → g < wr.heap.size := fun g e => R1.out.1.block_lt e
        refine ⟨⟨_, fun g => M g ∨ (Value.slice a k c).ownBlock = some g ∨ g = gl, ⟨⟨_, _, P1, C7.ids (l := .slice a k c) (l' := .slice (some ⟨gl, 0, none⟩) (k + 2) capl) ?_ ?_ ?_ ?_ ?_ (by rw [HNA.out]; exact K7) (by rw [HNA.out]; exact K9) (fun g hg => .inl hg) (fun g e => .inr (.inl e)) (fun g e => .inr (.inr (by simpa [Value.ownBlock] using e.symm))) (fun g hg => ?_), fun j hj => ?_⟩, fun g hg => ?_⟩, fun g hg => ?_, fun g hg => ?_⟩, ?_⟩
        · rw [upd_ne _ _ (by decide), CV.out 0]; rfl
        · rw [upd_same, HVV.out.2]
        · rw [upd_ne _ _ (by decide), CV.out 2]; rfl
        · rw [upd_ne _ _ (by decide), CV.out 3]; rfl
        · rw [upd_ne _ _ (by decide), CV.out 4]; rfl
        · rcases hg with hg | hg | hg
          · exact C7.lt g hg
          · have := hlX g hg; omega
          · omega
        · by_cases e : j = 1
          · subst e
            rw [upd_same, List.length_append, HVV.out.2]
            have := HNB.out.2.2 1 (by omega)
            simp; omega
          · rw [upd_ne _ _ e]; exact ROWS.out j hj
        · intro z
          have key : ∀ q, q < w5.heap.size → (¬ (W q ∨ (Value.slice (some ⟨g2, 0, none⟩) (NA + 1) cap2).ownBlock = some q)) → ¬ ((W q ∨ (Value.slice (some ⟨g2, 0, none⟩) (NA + 1) cap2).ownBlock = some q) ∨ (Value.slice a7 n7 c7).ownBlock = some q) := fun q hq hn y => by
            rcases y with y | y
            · exact hn y
            · rcases hat7 q y with x | x
              · rw [← HVV.out.1] at x
                exact hn (B5.out.1.wv 1 (by omega) q x).1
              · omega
          rcases hg with hg | hg | hg
          · exact key g (B5.out.2.1.lt g hg) (fun y => y.elim (DM.out g hg).1 (DM.out g hg).2) z
          · exact key g (by have := hlX g hg; omega) (nX g hg) z
          · subst hg; exact key g szl ngl z
        · rcases hg with (hg | hg) | hg
          · exact .inl hg
          · have e3 : g2 = g := by simpa [Value.ownBlock] using hg
            rcases HG2.out with y | y
            · exact .inl (e3 ▸ y)
            · exact .inr (by omega)
          · rcases hat7 g hg with x | x
            · rw [← HVV.out.1] at x
              rcases (B5.out.1.wv 1 (by omega) g x).1 with y | y
              · exact .inl y
              · have e3 : g2 = g := by simpa [Value.ownBlock] using y
                rcases HG2.out with y | y
                · exact .inl (e3 ▸ y)
                · exact .inr (by omega)
            · exact .inr (by omega)
        · rcases hg with hg | hg | hg
          · exact .inl hg
          · exact .inr (.inl hg)
          · subst hg
            rcases GL.out with y | y
            · exact .inr (.inl y)
            · exact .inr (.inr (by omega))
        · refine (((R1.out.2.mono (fun g _ e => .inr e)).trans (B3.out.2.2.2.1) (fun g _ e => .inl e)).trans B5.out.2.2 (fun g _ e => .inr e)).trans P2 (fun g lt e => ?_)
          rcases e with e | e
          · exact .inl e
          · have e3 : g2 = g := by simpa [Value.ownBlock] using e
            rcases HG2.out with y | y
            · exact .inl (e3 ▸ y)
            · omega
      clear P1 P2 P3 P4 r7 g7 hat7 B5 B3 R1
      go_wp2_with fail
      go_end0
      exact ⟨rfl, FIN.out⟩
end Go.Proofs.Ytcnhcdlbippjoaa
