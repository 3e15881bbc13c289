/-
  Ours: the statements' helper goneOn.
-/
import Derived.Test.YtkabfdajpilomabDoorIntFr0
namespace Go.Proofs.YtkabfdajpilomabDoor
open Go.RowKit IntM CalM

theorem wpList_arg' {P : Program} (w : World) {ops : Array Oper} {rest : List Oper} {o : Oper} {a : Act} {Q : Exit → Act → World → Prop}
    (hg : o.guard = none) (s x : Operand) (t : TypeId) (hop : o.op = Op.call { callee := Callee.builtin Builtin.append, args := #[s, x], argTypes := #[t, t] })
    (i : TypeInfo) (z : Value) (h1 : P.underlying t = some (.slice 30)) (h2 : P.info? 30 = some i) (h3 : i.zero = some z) (h4 : i.size = 4) (h5 : i.bytes = 32) (h6 : z.cells.size = 4)
    (base base' n m : Nat) (v u : Value) (vs us : List Value) (hs : a.eval s = v) (hx : a.eval x = u) (hv : RowC base w v n vs) (hu : RowC base' w u m us) (m0 : 0 < m) (hm : m ≤ 120) (hn : n ≤ 120) (hne : v.ownBlock = none ∨ v.ownBlock ≠ u.ownBlock) (h1c : ∀ y ∈ us, y.oneCell' = true) (hb : base ≤ w.heap.size)
    (h : ∀ g off cap w', (∀ j y, us[j]? = some y → w'.cell? ⟨g, off + n * 4 + j, none⟩ = some y) → n + m ≤ cap → cap ≤ maxLen → RowC base w' v n vs → RowC base' w' u m us → w.grownBy w' v.ownBlock → wpList P ops Q rest (a.put o.dst (.slice (some ⟨g, off, none⟩) (n + m) cap)) w') :
    wpList P ops Q (o :: rest) a w := by
  obtain ⟨gu, cu, curu, rfl, hbu, hgu, hnu, hmu, hsu, htu⟩ : ∃ gu cu cur, u = .slice (some ⟨gu, 0, none⟩) m cu ∧ base' ≤ gu ∧ w.heap[gu]? = some (.cells cur 30 (0, 0)) ∧ m ≤ cu ∧ cu ≤ maxLen ∧ cur.size = cu * 4 ∧ cur.toList.take (m * 4) = us := by
    rcases hu.2 with ⟨_, h0⟩ | h
    · omega
    · exact h
  have hcu : ∀ j y, us[j]? = some y → w.cell? ((⟨gu, 0, none⟩ : Addr).add j) = some y := World.ownsRow.cells hu rfl
  have hadd : ∀ (b j : Nat), (⟨b, 0, none⟩ : Addr).add j = ⟨b, j, none⟩ := fun b j => by unfold Addr.add; split <;> simp_all
  rcases hv.2 with ⟨rfl, rfl⟩ | ⟨gv, cv, curv, rfl, hbv, hgv, hnv, hmv, hsv, htv⟩
  · obtain rfl : vs = [] := List.length_eq_zero_iff.1 (by simpa using hv.1)
    refine wpList_append_own w hg s x t hop base _ i z 4 32 h1 h2 h3 h4 h5 h6 (by decide) _ 0 [] hs hv ⟨gu, 0, none⟩ m cu us hx hu.1 hcu h1c (by unfold maxLen; omega) (by omega) hb ?_
    intro v' w' hown' hgrow _
    rw [Nat.zero_add, List.nil_append] at hown'
    rcases hown'.2 with ⟨_, h0⟩ | ⟨g', c', cur', rfl, hb', hg', hn', hm', hs', ht'⟩
    · omega
    · have := h g' 0 c' w' (fun j y hj => by have := World.ownsRow.cells hown' rfl j y hj; rw [hadd] at this; simpa using this) (by omega) hm' (World.ownsRow_nil _ _ _ _) (World.ownsRow.kept hu hgrow (.inr (by simp [Value.ownBlock]))) hgrow
      simpa using this
  · have hcv : ∀ j y, vs[j]? = some y → w.cell? ⟨gv, 0 + j, none⟩ = some y := fun j y hj => by have := World.ownsRow.cells hv rfl j y hj; rw [hadd] at this; simpa using this
    have hne' : gv ≠ gu := by
      rcases hne with h | h
      · simp [Value.ownBlock] at h
      · simpa [Value.ownBlock] using h
    refine wpList_append_arg w hg s x t hop _ i z 4 32 h1 h2 h3 h4 h5 h6 (by decide) gv 0 n cv vs hs hv.1 hcv ⟨gu, 0, none⟩ m cu us hx hu.1 hcu h1c ?_ (by unfold maxLen; omega) (by omega) ?_ ?_
    · intro hroom j hj
      have hj' : 0 + n * 4 + j < curv.size := by rw [hsv]; have := hu.1; omega
      refine ⟨?_, ?_⟩
      · rw [cell_of_row w gv _ curv _ (0, 0) hgv, Array.getElem?_eq_getElem hj']; rfl
      · simp [World.frozen?, hgv]
    · intro hroom
      obtain ⟨p1, p2⟩ := setCells_past us (0 + n * 4) w hv (by omega)
      refine h gv 0 cv _ (fun j y hj => ?_) hroom hmv p1 (World.ownsRow.kept hu p2 (.inr (by simp [Value.ownBlock]; exact fun e => hne' e.symm))) p2
      obtain ⟨hjl, rfl⟩ := List.getElem?_eq_some_iff.1 hj
      exact World.cell?_setCells_in gv us (0 + n * 4) w (fun j hj => by
        have hj' : 0 + n * 4 + j < curv.size := by rw [hsv]; have := hu.1; omega
        rw [cell_of_row w gv _ curv _ (0, 0) hgv, Array.getElem?_eq_getElem hj']; rfl) j hjl
    · intro hgr v' w' hown' hgrow
      rcases hown'.2 with ⟨_, h0⟩ | ⟨g', c', cur', rfl, hb', hg', hn', hm', hs', ht'⟩
      · omega
      · refine h g' 0 c' w' (fun j y hj => ?_) hn' hm' (World.ownsRow.kept hv hgrow (.inr (by simp [Value.ownBlock]))) (World.ownsRow.kept hu hgrow (.inr (by simp [Value.ownBlock]))) (grownBy_none hgrow _)
        have := World.ownsRow.cells hown' rfl (n * 4 + j) y (by rw [List.getElem?_append_right (by rw [hv.1]; omega), hv.1, show n * 4 + j - n * 4 = j by omega]; exact hj)
        rw [hadd] at this
        simpa using this

theorem instRep (k : Nat) (d : Int) : (List.replicate k ((d, 0, 0) : Int × Int × Int)).length = k := by simp

theorem one_flat (rs : List (Int × Int × Int)) : ∀ y ∈ rs.flatMap instC, y.oneCell' = true := by
  intro y hy
  obtain ⟨x, _, hx⟩ := List.mem_flatMap.1 hy
  simp [instC] at hx
  rcases hx with rfl | rfl | rfl | rfl <;> rfl

set_option maxHeartbeats 2000000 in
theorem goneOn_at (base n : Nat) (a : Option Addr) (cap : Nat) (vs : List Value) (due : Int) (w : World) (hv : RowC base w (.slice a n cap) n vs) (hn : n ≤ 120) (hb : base ≤ w.heap.size) :
    Calls Tryd.prog 9 #[.slice a n cap, .int .i64 due] w fun e w' => e = .returned (.bool true) ∧ RowC base w' (.slice a n cap) n vs ∧ w.grownBy w' (Value.slice a n cap).ownBlock := by
  obtain ⟨i0, hi, hz0, hz1, hz2⟩ := info_parts infoInst
  have HV : Hid (RowC base w (.slice a n cap) n vs) := hv
  have hnI : (n : Int) ≤ 120 := by omega
  clear hv
  go_enter Tryd.func9, Tryd.ntmps9
  go_wp2_with fail
  go_loopw [5, 6] (fun v i wr => ∃ k : Nat, k ≤ 64 ∧ i = .int .i64 (k : Int) ∧ RowI w.heap.size wr v (List.replicate k (due, 0, 0)) ∧ Below w.heap.size w wr) (fun _ i _ => 64 - (intOf i).toNat)
  case atStart => exact ⟨0, by omega, rfl, RowI.nil _ _, Below.refl _ _⟩
  case round =>
    obtain ⟨k, hk, rfl, hown, hnx⟩ := hrel
    have hsz := hnx.size
    by_cases hlt : (k : Int) < 64
    · have hl : (List.replicate k ((due, 0, 0) : Int × Int × Int)).length < 1048576 := by rw [instRep]; omega
      have RS : Hid (List.replicate (k + 1) ((due, 0, 0) : Int × Int × Int) = List.replicate k (due, 0, 0) ++ [(due, 0, 0)]) := List.replicate_succ'
      go_wp2_with (at_builtin; refine wpList_pushI rfl (.tmp 12) (.tmp 15) 24 rfl i0 Tryd.underlying24 hi _ hz0 rfl hz1 hz2 w.heap.size w.heap.size w _ _ _ _ _ rfl hown hnx (Nat.le_refl _) hsz rfl hl ?_; intro v' w1 hown' hnx' hsz')
      go_roundw
      case rel => exact ⟨k + 1, by omega, by go_num, by rw [RS.out]; exact hown', hnx'⟩
      case measure => simp [intOf]; omega
    · obtain rfl : k = 64 := by omega
      have HVr : RowC base wr (.slice a n cap) n vs := World.ownsRow.kept HV.out (grownBy_below hnx none) (by
        cases a with
        | none => exact .inl rfl
        | some x => exact .inr (by simp [Value.ownBlock]))
      have hC : RowC w.heap.size wr u5 64 ((List.replicate 64 ((due, 0, 0) : Int × Int × Int)).flatMap instC) := hown
      have hne : (Value.slice a n cap).ownBlock = none ∨ (Value.slice a n cap).ownBlock ≠ u5.ownBlock := by
        cases ha : (Value.slice a n cap).ownBlock with
        | none => exact .inl rfl
        | some x =>
          right
          intro e
          have h1 := (World.ownsRow.lt HV.out x ha).2
          have h2 := (World.ownsRow.lt hC x e.symm).1
          omega
      have AL : Hid (∀ (s s' : Option Addr) (c c' : Nat) (w : World), InstOk w s (List.replicate 64 (due, 0, 0)) → InstOk w s' (List.replicate 64 (due, 0, 0)) → Calls Tryd.prog 8 #[.slice s 64 c, .slice s' 64 c'] w fun e w' => e = .returned (.bool true) ∧ ∃ n, w' = w.drewN n) := fun s s' c c' w h h' => by
        have := alike_at s s' c c' (List.replicate 64 (due, 0, 0)) w h h'
        rw [instRep] at this; exact this
      have hbr : base ≤ wr.heap.size := by omega
      clear hown hlt hk
      go_wp2_with (at_builtin; refine wpList_arg' wr rfl (.tmp 17) (.tmp 18) 24 rfl i0 _ Tryd.underlying24 hi hz0 hz1 hz2 rfl base w.heap.size n 64 _ _ vs _ rfl rfl HVr hC (by decide) (by decide) hn hne (one_flat _) hbr ?_; intro g off c w' hcells hcap hmax hRv hRu hgrow)
      obtain ⟨s5, q5, hv5, I5⟩ := RowI.form (show RowI w.heap.size w' u5 (List.replicate 64 (due, 0, 0)) from hRu) (by rw [instRep]; omega)
      rw [instRep] at hv5
      subst hv5
      have IG : InstOk w' (some ⟨g, off + n * 4, none⟩) (List.replicate 64 (due, 0, 0)) := by
        refine ⟨by rw [instRep]; omega, .inr ⟨g, off + n * 4, rfl, fun i hi => ?_⟩⟩
        have hi' := hi
        rw [instRep] at hi
        have key : ∀ j, j < 4 → ∀ u, (instC ((List.replicate 64 ((due, 0, 0) : Int × Int × Int)).getD i (0, 0, 0)))[j]? = some u → w'.cell? ⟨g, off + n * 4 + i * 4 + j, none⟩ = some u := fun j hj u hu => by
          have := hcells (4 * i + j) u ((instC_get _ i j hi' hj).trans hu)
          rw [show off + n * 4 + (4 * i + j) = off + n * 4 + i * 4 + j by omega] at this
          exact this
        exact ⟨key 0 (by omega) _ rfl, key 1 (by omega) _ rfl, key 2 (by omega) _ rfl, key 3 (by omega) _ rfl⟩
      have HR : Hid (RowC base w' (.slice a n cap) n vs ∧ w.grownBy w' (Value.slice a n cap).ownBlock) := ⟨hRv, grownBy_trans (grownBy_below hnx _) hgrow⟩
      refine (AL.out _ _ _ _ _ IG I5).mono ?_
      rintro e w2 ⟨rfl, m2, hw⟩; rw [hw]; clear hw w2
      go_wp2_with fail
      go_ret
      exact ⟨rfl, HR.out.1, grownBy_drewN HR.out.2 m2⟩
end Go.Proofs.YtkabfdajpilomabDoor
