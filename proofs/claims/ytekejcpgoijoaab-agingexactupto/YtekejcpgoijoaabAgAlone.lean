/-
  Ours: the statements' alone, marksRight.
-/
import Derived.Test.YtekejcpgoijoaabAgZer
import Derived.Test.YtekejcpgoijoaabAgSame
import Derived.Test.YtekejcpgoijoaabAgLaw
import Derived.Test.YtekejcpgoijoaabAgMiss
namespace Go.Proofs.Ytekejcpgoijoaab
open Go.RowKit LedM AgM

theorem RowP.shape {base : Nat} {w : World} {v : Value} {xs : List Ins} (h : RowP base w v xs) : ∃ a c, v = .slice a xs.length c := by
  rcases h.2 with ⟨hv, h0⟩ | ⟨g, cap, cur, rfl, _⟩
  · exact ⟨none, 0, by rw [hv, h0]⟩
  · exact ⟨_, _, rfl⟩
theorem Row.shape {e : TypeId} {base : Nat} {w : World} {v : Value} {xs : List Int} (h : Row e base w v xs) : ∃ a c, v = .slice a xs.length c := by
  rcases h.2 with ⟨hv, h0⟩ | ⟨g, cap, cur, rfl, _⟩
  · exact ⟨none, 0, by rw [hv, h0]⟩
  · exact ⟨_, _, rfl⟩
/-- A row of instalments with another row put into it. -/
theorem RowP.put {base : Nat} {w : World} {v : Value} {es : List Ins} (h : RowP base w v es) {k : Nat} (hk : k < es.length) : ∃ g cap zs, v = .slice (some ⟨g, 0, none⟩) es.length cap ∧ base ≤ g ∧ Blk g 32 zs w ∧ k * 4 + 4 ≤ zs.length ∧ ∀ w' x, Blk g 32 (zs.take (k * 4) ++ insL x ++ zs.drop (k * 4 + 4)) w' → RowP base w' v (es.set k x) := by
  rcases h.2 with ⟨hv, h0⟩ | ⟨g, cap, cur, rfl, hb, hg, hn, hm, hcs, htk⟩
  · omega
  · have hlen : cur.toList.length = cap * 4 := by rw [Array.length_toList]; exact hcs
    refine ⟨g, cap, cur.toList, rfl, hb, by unfold Blk; rw [hg], by omega, fun w' x hb' => ⟨inL_len _, .inr ⟨g, cap, _, by rw [List.length_set], hb, hb', by rw [List.length_set]; exact hn, hm, ?_, ?_⟩⟩⟩
    · simp [insL]; omega
    · rw [List.length_set, ← inL_set es k x hk, ← htk]
      generalize cur.toList = zs at *
      have e1 : (zs.take (k * 4)).length = k * 4 := by rw [List.length_take]; omega
      have e2 : (zs.take (k * 4) ++ insL x).length = k * 4 + 4 := by rw [List.length_append, e1]; rfl
      have e3 : (zs.take (es.length * 4)).take (k * 4) = zs.take (k * 4) := by rw [List.take_take, Nat.min_eq_left (by omega)]
      have e4 : (zs.take (es.length * 4)).drop (k * 4 + 4) = (zs.drop (k * 4 + 4)).take (es.length * 4 - (k * 4 + 4)) := by rw [List.drop_take]
      rw [e3, e4]
      show List.take (es.length * 4) (zs.take (k * 4) ++ insL x ++ zs.drop (k * 4 + 4)) = _
      rw [List.take_append, e2, List.take_of_length_le (by rw [e2]; omega)]
/-- A row of ints with another number put into it. -/
theorem Row.put {e : TypeId} {base : Nat} {w : World} {v : Value} {xs : List Int} (h : Row e base w v xs) {k : Nat} (hk : k < xs.length) (y : Int) : ∃ g cap, v = .slice (some ⟨g, 0, none⟩) xs.length cap ∧ base ≤ g ∧ (∃ u, w.cell? ⟨g, k, none⟩ = some u) ∧ w.frozen? ⟨g, k, none⟩ = false ∧ Row e base (w.setCell ⟨g, k, none⟩ (.int .i64 y)) v (xs.set k y) := by
  have hc := fun (g : Nat) (hg : v.ownBlock = some g) => World.ownsRow.cells h hg
  rcases h.2 with ⟨hv, h0⟩ | ⟨g, cap, cur, rfl, hb, hg, hn, hm, hcs, htk⟩
  · omega
  · have h1 := heap_setCell_same w g k cur e (.int .i64 y) hg
    refine ⟨g, cap, rfl, hb, ⟨.int .i64 (xs.getD k 0), ?_⟩, by simp [World.frozen?, hg], ?_⟩
    · have := hc g rfl k (.int .i64 (xs.getD k 0)) (by rw [List.getElem?_map, List.getElem?_eq_getElem hk]; simp [List.getD_eq_getElem?_getD, List.getElem?_eq_getElem hk])
      have hadd : (⟨g, 0, none⟩ : Addr).add k = ⟨g, k, none⟩ := by unfold Addr.add; split <;> simp_all
      rwa [hadd] at this
    · refine ⟨by simp, .inr ⟨g, cap, _, by simp, hb, h1, by simpa using hn, hm, by simpa using hcs, ?_⟩⟩
      rw [List.map_set, ← htk]
      simp [List.take_set]

set_option maxRecDepth 20000 in
set_option maxHeartbeats 2000000 in
theorem alone_at (xs : List Int) (b1 : Nat) (v1 v2 v3 : Value) (w : World) (hl : xs.length ≤ 1000000) (h1 : Row 3 b1 w v1 xs) (h2 : Reads w v2 xs) (h3 : Reads w v3 xs) (hb1 : b1 ≤ w.heap.size)
    (h12 : ∀ g, v1.ownBlock = some g → (∀ a n c, v2 = .slice (some a) n c → 0 < n → a.block ≠ g) ∧ (∀ a n c, v3 = .slice (some a) n c → 0 < n → a.block ≠ g)) :
    Calls Try.prog 13 #[v1, v2, v3] w fun e w' => e = .returned (.bool true) ∧ Below b1 w w' := by
  have SR : Hid (∀ va vb w', Reads w' va xs → Reads w' vb xs → Calls Try.prog 12 #[va, vb] w' fun e w2 => e = .returned (.bool true) ∧ ∃ n, w2 = w'.drewN n) := fun va vb w' r1 r2 => sameR_yes xs va vb w' (by omega) r1 r2
  have KP : Hid (∀ w', w.grownBy w' v1.ownBlock → Reads w' v2 xs ∧ Reads w' v3 xs) := fun w' g => by
    have key : ∀ v, Reads w v xs → (∀ b, v1.ownBlock = some b → ∀ a n c, v = .slice (some a) n c → 0 < n → a.block ≠ b) → Reads w' v xs := fun v hr hne => by
      rcases hr with hr | ⟨h0, gg, o, cap, hv, hc, hg, hx⟩
      · exact .inl hr
      · refine .inr ⟨h0, gg, o, cap, hv, hc, Nat.lt_of_lt_of_le hg g.size, fun i hi => ?_⟩
        rw [World.cell?_of_block (g.block gg hg (fun e => hne gg e.symm _ _ _ hv h0 rfl))]
        exact hx i hi
    exact ⟨key v2 h2 (fun b hb => (h12 b hb).1), key v3 h3 (fun b hb => (h12 b hb).2)⟩
  obtain ⟨L, hL⟩ : ∃ L, xs.length = L := ⟨_, rfl⟩
  obtain ⟨a1, c1, rfl⟩ := h1.shape
  have F : ∀ v, Reads w v xs → ∃ a c, v = .slice a L c := fun v hr => by
    rcases hr with ⟨e, a, c, e'⟩ | ⟨_, g, o, c, e, _⟩
    · rw [e] at hL; simp at hL; subst hL; exact ⟨a, c, e'⟩
    · exact ⟨_, c, by rw [← hL]; exact e⟩
  obtain ⟨a2, c2, rfl⟩ := F v2 h2
  obtain ⟨a3, c3, rfl⟩ := F v3 h3
  have R1 : Hid (Row 3 b1 w (.slice a1 L c1) xs) := by show Row _ _ _ _ _; rw [← hL]; exact h1
  rw [hL] at KP hl ⊢
  have HL : Hid (xs.length = L) := hL
  clear h1 h2 h3 h12 F hL
  have q0 : ((L : Int) + 64 == (L : Int) + 64) = true := by simp
  go_enter Try.func13, Try.ntmps13
  go_wp2_with fail
  go_loopw [7] (fun vk wr => ∃ (k : Nat) (ys : List Int), vk = .int .i64 (k : Int) ∧ k ≤ L ∧ Hid (ys.length = L ∧ Row 3 b1 wr (.slice a1 L c1) ys ∧ w.grownBy wr (Value.slice a1 L c1).ownBlock)) (fun vk _ => L - (intOf vk).toNat)
  case atStart => exact ⟨0, xs, rfl, by omega, HL.out, R1.out, grownBy_refl _ _⟩
  case round =>
    obtain ⟨k, ys, rfl, hk, B⟩ := hrel
    by_cases hlt : (k : Int) < (L : Int)
    · obtain ⟨g, cap, ev, hg, ⟨u, cu⟩, fz, put⟩ := Row.put B.out.2.1 (k := k) (by rw [B.out.1]; omega) (-5)
      injection ev with e1 e2 e3
      clear e2
      subst e1 e3
      have BP : Hid ((ys.set k (-5)).length = L ∧ Row 3 b1 (wr.setCell ⟨g, k, none⟩ (.int .i64 (-5))) (.slice (some ⟨g, 0, none⟩) L c1) (ys.set k (-5)) ∧ w.grownBy (wr.setCell ⟨g, k, none⟩ (.int .i64 (-5))) (Value.slice (some ⟨g, 0, none⟩) L c1).ownBlock) := ⟨by rw [List.length_set]; exact B.out.1, put, grownBy_trans B.out.2.2 (setCell_grown wr g k _)⟩
      clear put B
      go_wp2_with fail
      go_roundw
      case rel => exact ⟨k + 1, _, by go_num, by omega, BP.out⟩
      case measure => simp [intOf]; omega
    · have hw : w.grownBy wr (Value.slice a1 L c1).ownBlock := B.out.2.2
      have BW : Hid (Below b1 w wr ∧ b1 ≤ wr.heap.size) := ⟨⟨hw.os, hw.tape, hw.output, hw.size, fun j hj => hw.block j (by omega) (fun e => by have := (World.ownsRow.lt R1.out j e.symm).1; omega)⟩, Nat.le_trans hb1 hw.size⟩
      clear hw
      have RW : Hid (wr.ownsRow b1 3 1 (.slice a1 L c1) L (ys.map (Value.int .i64))) := by have := B.out.2.1; unfold Row at this; rw [B.out.1] at this; exact this
      go_wp2_with (at_builtin; refine wpList_zerosI rfl (.tmp 18) (.const (.int .i64 64)) rfl b1 (.slice a1 L c1) L _ rfl RW.out rfl (by omega) ?_; intro ao cap w5 g5)
      have B5 : Hid ((Reads w5 (.slice a2 L c2) xs ∧ Reads w5 (.slice a3 L c3) xs) ∧ Below b1 w w5) := ⟨KP.out w5 (grownBy_trans B.out.2.2 g5), BW.out.1.grown g5 BW.out.2 (fun j hj => (World.ownsRow.lt R1.out j hj).1)⟩
      clear g5 RW B BW
      refine (SR.out _ _ _ B5.out.1.1 B5.out.1.2).mono ?_
      rintro e w6 ⟨rfl, m, rfl⟩
      go_wp2_with fail
      go_ret
      exact ⟨rfl, below_drewN B5.out.2 _⟩

theorem RowP.apart {b1 b2 : Nat} {w1 w2 : World} {v1 v2 : Value} {l1 l2 : List Ins} (h1 : RowP b1 w1 v1 l1) (h2 : RowP b2 w2 v2 l2) (hb : w1.heap.size ≤ b2) : ∀ g, v2.ownBlock = some g → v1.ownBlock ≠ some g := fun g hg e => by
  have := h1.lt e; have := h2.ge hg; omega

set_option maxRecDepth 20000 in
set_option maxHeartbeats 2000000 in
theorem marks_at (l : List Ins) (rows : List Int) (v vr v3 : Value) (w : World) (hl : l.length ≤ 400) (hlr : rows.length ≤ 400) (h : RdP w v l) (hr : Reads w vr rows) (h3 : RdP w v3 (mkL l rows)) :
    Calls Try.prog 14 #[v, vr, v3] w fun e w' => e = .returned (.bool true) ∧ Below w.heap.size w w' := by
  have MA : Hid (∀ w', Below w.heap.size w w' → Calls Try.prog 20 #[v, vr] w' fun e w2 => ∃ v2, e = .returned v2 ∧ RowP w'.heap.size w2 v2 (mkL l rows) ∧ Below w'.heap.size w' w2) := fun w' hb => mark_at l rows v vr w' (by omega) (by omega) (h.later hb) (hr.later hb)
  have SP : Hid (∀ va vb w', RdP w' va (mkL l rows) → RdP w' vb (mkL l rows) → Calls Try.prog 9 #[va, vb] w' fun e w2 => e = .returned (.bool true) ∧ Below w'.heap.size w' w2) := fun va vb w' r1 r2 => (sameP_yes _ va vb w' (by rw [mkL_len]; omega) r1 r2).mono fun e w2 ⟨he, m, hw⟩ => ⟨he, by rw [hw]; exact below_drewN (Below.refl _ _) m⟩
  have R3 : Hid (∀ w', Below w.heap.size w w' → RdP w' v3 (mkL l rows)) := fun w' hb => h3.later hb
  have hml := mkL_len l rows
  generalize mkL l rows = ml at *
  obtain ⟨L, hL⟩ : ∃ L, ml.length = L := ⟨_, rfl⟩
  have HL : Hid (ml.length = L) := hL
  have hL4 : L ≤ 400 := by omega
  obtain ⟨a3, c3, rfl, -, -, -⟩ := h3
  rw [hL] at R3 ⊢
  clear h hr hml hL
  have q0 : ((L : Int) + 64 == (L : Int) + 64) = true := by simp
  go_enter Try.func14, Try.ntmps14
  go_wp2_with fail
  refine (MA.out _ (Below.refl _ _)).mono ?_
  rintro e w1 ⟨v1, rfl, r1, b1⟩
  have B1 : Hid (RowP w.heap.size w1 v1 ml ∧ Below w.heap.size w w1) := ⟨r1, b1⟩
  clear r1 b1
  go_wp2_with fail
  refine (MA.out _ B1.out.2).mono ?_
  rintro e w2 ⟨v2, rfl, r2, b2⟩
  have AP : Hid (∀ g, v2.ownBlock = some g → v1.ownBlock ≠ some g) := B1.out.1.apart r2 (Nat.le_refl _)
  obtain ⟨bs, hbs⟩ : ∃ b, w1.heap.size = b := ⟨_, rfl⟩
  have B2 : Hid (RowP w.heap.size w2 v1 ml ∧ RowP bs w2 v2 ml ∧ Below w.heap.size w w2) := ⟨B1.out.1.later b2, hbs ▸ r2, below_trans B1.out.2 b2⟩
  clear r2 b2 B1 MA hbs
  go_wp2_with fail
  refine (SP.out _ _ _ B2.out.1.rd (R3.out _ B2.out.2.2)).mono ?_
  rintro e w3 ⟨rfl, b3⟩
  have B3 : Hid (RowP w.heap.size w3 v1 ml ∧ RowP bs w3 v2 ml ∧ Below w.heap.size w w3) := ⟨B2.out.1.later b3, B2.out.2.1.later b3, below_trans B2.out.2.2 b3⟩
  clear b3 B2
  go_wp2_with fail
  refine (SP.out _ _ _ B3.out.2.1.rd (R3.out _ B3.out.2.2)).mono ?_
  rintro e w4 ⟨rfl, b4⟩
  have B4 : Hid (RowP w.heap.size w4 v1 ml ∧ RowP bs w4 v2 ml ∧ Below w.heap.size w w4) := ⟨B3.out.1.later b4, B3.out.2.1.later b4, below_trans B3.out.2.2 b4⟩
  clear b4 B3
  obtain ⟨a1, c1, e1⟩ := B4.out.1.shape
  rw [HL.out] at e1
  subst e1
  go_wp2_with fail
  go_loopw [9] (fun vk wr => ∃ (k : Nat) (ys : List Ins), vk = .int .i64 (k : Int) ∧ k ≤ L ∧ Hid (ys.length = L ∧ RowP w.heap.size wr (.slice a1 L c1) ys ∧ RowP bs wr v2 ml ∧ Below w.heap.size w wr)) (fun vk _ => L - (intOf vk).toNat)
  case atStart => exact ⟨0, ml, rfl, by omega, HL.out, B4.out⟩
  case round =>
    obtain ⟨k, ys, rfl, hk, B⟩ := hrel
    by_cases hlt : (k : Int) < (L : Int)
    · obtain ⟨g, cap, zs, ev, hg, nb, zl, put⟩ := RowP.put B.out.2.1 (k := k) (by rw [B.out.1]; omega)
      injection ev with e1 e2 e3
      clear e2
      subst e1 e3
      have NB : Hid (Blk g 32 zs wr ∧ w.heap.size ≤ g ∧ k * 4 + 4 ≤ zs.length) := ⟨nb, hg, zl⟩
      have PT : Hid (∀ w' x, Blk g 32 (zs.take (k * 4) ++ insL x ++ zs.drop (k * 4 + 4)) w' → RowP w.heap.size w' (.slice (some ⟨g, 0, none⟩) L c1) (ys.set k x)) := put
      clear nb hg zl put
      go_wp2_with (refine step_store rfl 32 _ _ rfl g (k * 4) 32 zs (insL ⟨-902, 0, 0, false⟩) rfl rfl NB.out.1 NB.out.2.2 (infoI _) (oneI _) ?_; intro w5 nb5 g5; have BP : Hid ((ys.set k ⟨-902, 0, 0, false⟩).length = L ∧ RowP w.heap.size w5 (.slice (some ⟨g, 0, none⟩) L c1) (ys.set k ⟨-902, 0, 0, false⟩) ∧ RowP bs w5 v2 ml ∧ Below w.heap.size w w5) := ⟨by rw [List.length_set]; exact B.out.1, PT.out w5 _ nb5, B.out.2.2.1.kept g5 (fun b hb e => AP.out b hb e), below_row B.out.2.2.2 g5 NB.out.2.1⟩; clear nb5 g5 B NB PT)
      go_roundw
      case rel => exact ⟨k + 1, _, by go_num, by omega, BP.out⟩
      case measure => simp [intOf]; omega
    · have RW : Hid (wr.ownsRow w.heap.size 32 4 (.slice a1 L c1) L (inL ys)) := by have := B.out.2.1; unfold RowP at this; rw [B.out.1] at this; exact this
      go_wp2_with (at_builtin; refine wpList_zerosP rfl (.tmp 37) (.const (.int .i64 64)) rfl w.heap.size (.slice a1 L c1) L _ rfl RW.out rfl (by omega) ?_; intro ao cap w5 g5)
      have B5 : Hid (RowP bs w5 v2 ml ∧ Below w.heap.size w w5) := ⟨B.out.2.2.1.kept g5 (fun b hb e => AP.out b hb e), B.out.2.2.2.grown g5 B.out.2.2.2.size (fun j hj => (World.ownsRow.lt RW.out j hj).1)⟩
      clear g5 RW B
      refine (SP.out _ _ _ B5.out.1.rd (R3.out _ B5.out.2)).mono ?_
      rintro e w6 ⟨rfl, b6⟩
      have B6 : Hid (Below w.heap.size w w6) := below_trans B5.out.2 b6
      clear b6 B5
      go_wp2_with fail
      go_ret
      exact ⟨rfl, B6.out⟩
end Go.Proofs.Ytekejcpgoijoaab
