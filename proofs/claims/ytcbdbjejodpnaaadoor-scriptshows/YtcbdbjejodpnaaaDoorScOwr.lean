/-
  Ours: the statements' helpers ownReply and left.
-/
import Derived.Test.YtcbdbjejodpnaaaDoorScRsh
import Derived.Test.YtcbdbjejodpnaaaDoorLedOwn
import Derived.Deep.QuietTactic
import Derived.BigQuiet
namespace Go.Proofs.YtcbdbjejodpnaaaDoor
open Go.RowKit Go.Lib

theorem Rd.cut {w : World} {a : Option Addr} {n c : Nat} {vs : List Value} (h : Rd w (.slice a n c) vs) {k : Nat} (hk : k ≤ n) : Rd w (.slice a k c) (vs.take k) := by
  obtain ⟨ao, cp, e, h1, h2, h3⟩ := h
  injection e with e1 e2 e3
  subst e1 e2 e3
  have hm : (vs.take k).length = k := by rw [List.length_take]; omega
  refine ⟨a, c, by rw [hm], by omega, h2, fun i hi => ?_⟩
  obtain ⟨b, off, e1, e2, e3⟩ := h3 i (by omega)
  refine ⟨b, off, e1, e2, ?_⟩
  rw [e3]
  simp
theorem infoI : (Tryd.prog.info? 2).map (fun i => (i.zero, i.size, i.bytes)) = some (some (.int .i64 0), 1, 8) := by kernel_rfl
theorem underI : Tryd.prog.underlying 23 = some (.slice 2) := by kernel_rfl

set_option maxRecDepth 20000 in
set_option maxHeartbeats 4000000 in
theorem ownReply_at (err : Int) (zs : List Int) (ao : Option Addr) (cap : Nat) (w : World) (hlen : zs.length ≤ 1000000) (h : Rd w (.slice ao zs.length cap) (zs.map iv)) :
    Calls Tryd.prog 5 #[RpV err (.slice ao zs.length cap)] w fun e w' => ∃ g c, e = .returned (.tuple #[RpV err (.slice (some ⟨g, 0, none⟩) zs.length c), .slice (some ⟨g, 0, none⟩) (zs.length + 1) c]) ∧ zs.length + 1 ≤ c ∧ RowV 2 w.heap.size w' (.slice (some ⟨g, 0, none⟩) (zs.length + 1) c) (zs.map iv ++ [iv (-77)]) ∧ Below w.heap.size w w' := by
  obtain ⟨i0, hi, hz0, hz1, hz2⟩ := info_parts infoI
  obtain ⟨-, hcap, CC⟩ := rd_iv h
  have HC : Hid (∀ i, i < zs.length → ∃ g o, ao = some ⟨g, o, none⟩ ∧ g < w.heap.size ∧ w.cell? ⟨g, o + i, none⟩ = some (.int .i64 (zs.getD i 0))) := CC
  have HN : Hid (∀ k, k < zs.length → (zs.take (k + 1)).map iv = (zs.take k).map iv ++ [.int .i64 (zs.getD k 0)]) := fun k hk => by rw [List.take_add_one, List.getElem?_eq_getElem hk, List.getD_eq_getElem?_getD, List.getElem?_eq_getElem hk, List.map_append]; rfl
  have HF : Hid (zs.map iv = (zs.take zs.length).map iv) := by show _ = _; rw [List.take_of_length_le (Nat.le_refl _)]
  have HT : Hid (∀ k, k ≤ zs.length → ((zs.take k).map iv).length = k) := fun k hk => by rw [List.length_map, List.length_take]; omega
  rw [HF.out]
  clear h CC HF
  generalize zs.length = L at *
  have K0 : Blk w.heap.size 25 [.int .i64 err, .slice ao L cap] (w.alloc (.cells #[.int .i64 err, .slice ao L cap] 25)) := Blk.new _ [.int .i64 err, .slice ao L cap] w
  have b1 := below_alloc w (.cells #[.int .i64 err, .slice ao L cap] 25)
  have b2 := below_alloc (w.alloc (.cells #[.int .i64 err, .slice ao L cap] 25)) (.cells #[.int .i64 0, .slice none 0 0] 25)
  have K1 : Blk (w.heap.size + 1) 25 [.int .i64 0, .slice none 0 0] ((w.alloc (.cells #[.int .i64 err, .slice ao L cap] 25)).alloc (.cells #[.int .i64 0, .slice none 0 0] 25)) := Blk.new2 _ [.int .i64 0, .slice none 0 0] w _
  have K0' := K0.below b2
  have B2 := below_trans b1 b2
  have S2 : ((w.alloc (.cells #[.int .i64 err, .slice ao L cap] 25)).alloc (.cells #[.int .i64 0, .slice none 0 0] 25)).heap.size = w.heap.size + 2 := by simp only [World.size_alloc]
  obtain ⟨W, hW⟩ : ∃ W, (w.alloc (.cells #[.int .i64 err, .slice ao L cap] 25)).alloc (.cells #[.int .i64 0, .slice none 0 0] 25) = W := ⟨_, rfl⟩
  rw [hW] at K0' K1 B2 S2
  have I0 : Hid (Blk w.heap.size 25 [.int .i64 err, .slice ao L cap] W ∧ Blk (w.heap.size + 1) 25 [.int .i64 0, .slice none 0 0] W ∧ Below w.heap.size w W) := ⟨K0', K1, B2⟩
  have HS : Hid (W.heap.size = w.heap.size + 2) := S2
  clear K0 K0' K1 B2 b1 b2 S2
  go_enter Tryd.func5, Tryd.ntmps5
  go_wp2_with fail
  go_loopw [4, 5] (fun vl vk wr => ∃ k : Nat, vk = .int .i64 (k : Int) ∧ k ≤ L ∧ Hid (RowV 2 (w.heap.size + 2) wr vl ((zs.take k).map iv)) ∧ Hid (Below W.heap.size W wr)) (fun _ vk _ => L - (RowKit.intOf vk).toNat)
  case atStart => exact ⟨0, rfl, by omega, RowV.nil _ _ _, Below.refl _ _⟩
  case round =>
    obtain ⟨k, rfl, hk, R, B⟩ := hrel
    have own := R.out
    have q0 := (I0.out.1.below B.out).cell 0 _ rfl
    have q1 := (I0.out.1.below B.out).cell 1 _ rfl
    have hsz : w.heap.size + 2 ≤ wr.heap.size := by have := HS.out; have := B.out.size; omega
    have hkl := HT.out k hk
    have l1 : ((zs.take k).map iv).length + 1 ≤ maxLen := by unfold maxLen; omega
    have l2 : (((zs.take k).map iv).length + 1) * 8 ≤ 140737488355328 := by omega
    by_cases hlt : (k : Int) < (L : Int)
    · obtain ⟨g, o, ea, glt, cc⟩ := HC.out k (by omega)
      have cc2 : wr.cell? ⟨g, o + k, none⟩ = some (.int .i64 (zs.getD k 0)) := ((below_trans I0.out.2.2 B.out).cell (p := ⟨g, o + k, none⟩) glt).trans cc
      have NX : Hid ((zs.take (k + 1)).map iv = (zs.take k).map iv ++ [.int .i64 (zs.getD k 0)]) := HN.out k (by omega)
      subst ea
      clear cc glt HC HN R hkl HT
      generalize zs.getD k 0 = Z at *
      go_wp2_with (at_builtin; refine wpList_pushV rfl (.tmp 13) (.tmp 19) 23 rfl 2 i0 (.int .i64 0) 8 underI hi hz0 hz1 hz2 rfl (w.heap.size + 2) _ _ _ rfl rfl own hsz rfl l1 l2 ?_; intro v' w2 own2 gr)
      have R2 : Hid (RowV 2 (w.heap.size + 2) w2 v' ((zs.take (k + 1)).map iv)) := by rw [NX.out]; exact own2
      have B2 : Hid (Below W.heap.size W w2) := below_grown B.out own (by rw [HS.out]; exact Nat.le_refl _) B.out.size gr
      clear own own2 gr
      go_roundw
      case rel => exact ⟨k + 1, by go_num, by omega, R2, B2⟩
      case measure => simp [RowKit.intOf]; omega
    · obtain rfl : k = L := by omega
      have l1' := l1
      clear HC HN R HT
      go_wp2_with (at_builtin; refine wpList_pushV rfl (.tmp 21) (.tmp 22) 23 rfl 2 i0 (.int .i64 0) 8 underI hi hz0 hz1 hz2 rfl (w.heap.size + 2) _ _ _ rfl rfl own hsz rfl l1 l2 ?_; intro v' w2 own2 gr)
      have B2 : Hid (Below W.heap.size W w2) := below_grown B.out own (by rw [HS.out]; exact Nat.le_refl _) B.out.size gr
      obtain ⟨g, c, ev, hgc, -, -⟩ : ∃ g cap, v' = .slice (some ⟨g, 0, none⟩) (k + 1) cap ∧ k + 1 ≤ cap ∧ True ∧ True := by
        rcases own2.2 with ⟨_, h0⟩ | ⟨g, cap, cur, e, _, _, hn, _⟩
        · simp at h0
        · have hkk : ((zs.take k).map iv ++ [Value.int .i64 (-77)]).length = k + 1 := by rw [List.length_append, hkl]; rfl
          rw [hkk] at e hn
          exact ⟨g, cap, e, hn, trivial, trivial⟩
      subst ev
      have K0 := I0.out.1.below B2.out
      have K1 := I0.out.2.1.below B2.out
      have q0' := K0.cell 0 _ rfl
      have q1' := K0.cell 1 _ rfl
      have f0 := K1.fz 0
      have f1 := K1.fz 1
      have p0 := K1.cell 0 _ rfl
      have p1 := K1.cell 1 _ rfl
      have hkc : (k : Int) ≤ (c : Int) := by omega
      go_wp2_with fail
      go_region
      all_goals
        go_wp2_with fail
        have K2 := (K1.set (i := 0) (.int .i64 err)).set (i := 1) (.slice (some ⟨g, 0, none⟩) k c)
        have g1 := setCell_grown w2 (w.heap.size + 1) 0 (.int .i64 err)
        have g2 := setCell_grown (w2.setCell ⟨w.heap.size + 1, 0, none⟩ (.int .i64 err)) (w.heap.size + 1) 1 (.slice (some ⟨g, 0, none⟩) k c)
        have gg := grownBy_trans g1 g2
        have own3 : RowV 2 (w.heap.size + 2) ((w2.setCell ⟨w.heap.size + 1, 0, none⟩ (.int .i64 err)).setCell ⟨w.heap.size + 1, 1, none⟩ (.slice (some ⟨g, 0, none⟩) k c)) (.slice (some ⟨g, 0, none⟩) (k + 1) c) ((zs.take k).map iv ++ [.int .i64 (-77)]) := RowV.kept own2 gg (fun q hq e => by
          have := own2.block_ge hq
          injection e with e
          omega)
        have B3 := below_row (below_trans I0.out.2.2 B2.out) gg (by omega)
        refine ret_blk_tmp rfl rfl (w.heap.size + 1) 25 [.int .i64 err, .slice (some ⟨g, 0, none⟩) k c] _ rfl K2 Tryd.underlying25 rfl (by kernel_rfl) ?_
        exact ⟨g, c, rfl, hgc, RowV.mono own3 (by omega), below_drewN B3 1⟩
end Go.Proofs.YtcbdbjejodpnaaaDoor
