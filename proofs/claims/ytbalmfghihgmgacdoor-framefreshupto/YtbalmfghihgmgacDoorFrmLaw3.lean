/-
  Ours: frame.Join; the statements' helpers size, fits, twin.
-/
import Derived.Test.YtbalmfghihgmgacDoorFrmLaw2
import Derived.Test.YtbalmfghihgmgacDoorFrmEnc
namespace Go.Proofs.YtbalmfghihgmgacDoor
open Go.RowKit

/-- Payloads that came in. -/
structure Sml (cs : List (List Nat)) : Prop where
  cnt : cs.length ≤ 1048576
  len : ∀ c ∈ cs, c.length ≤ 1048576
  byt : ∀ c ∈ cs, ∀ b ∈ c, b < 256
theorem Sml.lenD {cs : List (List Nat)} (h : Sml cs) (i : Nat) : (cs.getD i []).length ≤ 1048576 := by
  rw [List.getD_eq_getElem?_getD]
  cases e : cs[i]? with
  | none => simp
  | some y => exact h.len y (List.mem_of_getElem? e)
theorem Sml.bytD {cs : List (List Nat)} (h : Sml cs) (i : Nat) : ∀ b ∈ cs.getD i [], b < 256 := by
  rw [List.getD_eq_getElem?_getD]
  cases e : cs[i]? with
  | none => intro b hb; cases hb
  | some y => exact h.byt y (List.mem_of_getElem? e)
theorem take_next {α : Type} (cs : List (List α)) (k : Nat) (h : k < cs.length) : cs.take (k + 1) = cs.take k ++ [cs.getD k []] := by
  rw [List.take_add_one, List.getD_eq_getElem?_getD, List.getElem?_eq_getElem h]; rfl
theorem join_snoc (ps : List (List Nat)) (p : List Nat) : CrcM.join (ps ++ [p]) = CrcM.join ps ++ CrcM.enc p := by unfold CrcM.join; simp
theorem join_nil : CrcM.join [] = [] := by unfold CrcM.join; rfl
theorem sizeL_snoc (ps : List (List Nat)) (p : List Nat) : CrcM.sizeL (ps ++ [p]) = CrcM.sizeL ps + p.length + 8 := by
  unfold CrcM.sizeL; rw [join_snoc, List.length_append, CrcM.enc_len]; omega
theorem sizeL_take_le : ∀ (ps : List (List Nat)) (k : Nat), CrcM.sizeL (ps.take k) ≤ CrcM.sizeL ps
  | [], k => by simp
  | p :: ps, 0 => by simp [CrcM.sizeL_nil]
  | p :: ps, k + 1 => by have := sizeL_take_le ps k; rw [List.take_succ_cons, CrcM.sizeL_cons, CrcM.sizeL_cons]; omega
theorem Sml.size {cs : List (List Nat)} (h : Sml cs) : CrcM.sizeL cs ≤ cs.length * 1048584 := by
  have H : ∀ l : List (List Nat), (∀ c ∈ l, c.length ≤ 1048576) → CrcM.sizeL l ≤ l.length * 1048584 := by
    intro l
    induction l with
    | nil => intro _; rw [CrcM.sizeL_nil]; omega
    | cons p l ih =>
      intro hl
      have h1 := ih (fun c hc => hl c (by simp [hc]))
      have h2 := hl p (by simp)
      rw [CrcM.sizeL_cons, List.length_cons, Nat.add_mul]
      omega
  exact H cs h.len

set_option maxHeartbeats 1000000 in
theorem size_at (cs : List (List Nat)) (v : Value) (w : World) (hs : Sml cs) (h : RdR w v cs) : Calls Tryd.prog 20 #[v] w fun e w' => e = .returned (.int .i64 ((CrcM.sizeL cs : Nat) : Int)) ∧ w' = w := by
  obtain ⟨ao, cap, rfl, hcap⟩ := h.len
  have HH : Hid (∀ i, i < cs.length → ∃ g o a' c', ao = some ⟨g, o, none⟩ ∧ w.cell? ⟨g, o + i, none⟩ = some (.slice a' (cs.getD i []).length c') ∧ RdB w (.slice a' (cs.getD i []).length c') (cs.getD i [])) := h.at.2.2
  have HN : Hid (∀ i, i < cs.length → CrcM.sizeL (cs.take (i + 1)) = CrcM.sizeL (cs.take i) + (cs.getD i []).length + 8) := fun i hi => by rw [take_next cs i hi, sizeL_snoc]
  have HB : Hid (∀ i, CrcM.sizeL (cs.take i) ≤ 1099520016384) := fun i => by have := sizeL_take_le cs i; have := hs.size; have := hs.cnt; omega
  have HD : Hid (∀ i, (cs.getD i []).length ≤ 1048576) := hs.lenD
  have Z0 : Hid (CrcM.sizeL (cs.take 0) = 0) := by show _ = _; rw [List.take_zero]; exact CrcM.sizeL_nil
  have HF : Hid (CrcM.sizeL cs = CrcM.sizeL (cs.take cs.length)) := by show _ = _; rw [List.take_of_length_le (Nat.le_refl _)]
  rw [HF.out]
  have hc := hs.cnt
  clear h hs HF
  generalize cs.length = L at *
  go_enter Tryd.func20, Tryd.ntmps20
  go_wp2_with fail
  go_loopw [3, 4] (fun vn vk wr => ∃ k : Nat, wr = w ∧ vk = .int .i64 (k : Int) ∧ k ≤ L ∧ vn = .int .i64 ((CrcM.sizeL (cs.take k) : Nat) : Int)) (fun _ vk _ => L - (intOf vk).toNat)
  case atStart => exact ⟨0, rfl, rfl, by omega, by rw [Z0.out]; rfl⟩
  case round =>
    obtain ⟨k, rfl, rfl, hk, rfl⟩ := hrel
    have hb := HB.out k
    by_cases hlt : (k : Int) < (L : Int)
    · obtain ⟨g, o, a1, c1, rfl, d1, _⟩ := HH.out k (by omega)
      have hx := HD.out k
      have HN' : Hid (CrcM.sizeL (cs.take (k + 1)) = CrcM.sizeL (cs.take k) + (cs.getD k []).length + 8) := HN.out k (by omega)
      generalize CrcM.sizeL (cs.take k) = S at *
      generalize (cs.getD k []).length = X at *
      go_wp2_with fail
      go_roundw
      case rel => exact ⟨k + 1, by trivial, by go_num, by omega, by rw [HN'.out]; go_num⟩
      case measure => simp [intOf]; omega
    · obtain rfl : k = L := by omega
      go_wp2_with fail
      go_ret
      exact ⟨rfl, rfl⟩

set_option maxHeartbeats 1000000 in
theorem fits_at (cs : List (List Nat)) (v : Value) (w : World) (hs : Sml cs) (h : RdR w v cs) : Calls Tryd.prog 17 #[v] w fun e w' => e = .returned (.bool (decide (CrcM.sizeL cs ≤ 6000000))) ∧ w' = w := by
  obtain ⟨ao, cap, rfl, hcap⟩ := h.len
  have SZ : Hid (Calls Tryd.prog 20 #[.slice ao cs.length cap] w fun e w' => e = .returned (.int .i64 ((CrcM.sizeL cs : Nat) : Int)) ∧ w' = w) := size_at cs _ w hs h
  have HH : Hid (∀ i, i < cs.length → ∃ g o a' c', ao = some ⟨g, o, none⟩ ∧ w.cell? ⟨g, o + i, none⟩ = some (.slice a' (cs.getD i []).length c') ∧ RdB w (.slice a' (cs.getD i []).length c') (cs.getD i [])) := h.at.2.2
  have HD : Hid (∀ i, (cs.getD i []).length ≤ 1048576) := hs.lenD
  have DS : Hid (decide (CrcM.sizeL cs ≤ 6000000) = decide (((CrcM.sizeL cs : Nat) : Int) ≤ 6000000)) := by show _ = _; congr 1; exact propext ⟨fun h => by omega, fun h => by omega⟩
  rw [DS.out]
  have hc := hs.cnt
  clear h hs DS
  generalize CrcM.sizeL cs = S at *
  generalize cs.length = L at *
  go_enter Tryd.func17, Tryd.ntmps17
  go_wp2_with fail
  go_loopw [3] (fun vk wr => ∃ k : Nat, wr = w ∧ vk = .int .i64 (k : Int) ∧ k ≤ L) (fun vk _ => L - (intOf vk).toNat)
  case atStart => exact ⟨0, rfl, rfl, by omega⟩
  case round =>
    obtain ⟨k, rfl, rfl, hk⟩ := hrel
    by_cases hlt : (k : Int) < (L : Int)
    · obtain ⟨g, o, a1, c1, rfl, d1, _⟩ := HH.out k (by omega)
      have hx := HD.out k
      generalize (cs.getD k []).length = X at *
      have dx : ¬ (4194304 : Int) < (X : Int) := by omega
      go_wp2_with fail
      go_roundw
      case rel => exact ⟨k + 1, by trivial, by go_num, by omega⟩
      case measure => simp [intOf]; omega
    · obtain rfl : k = L := by omega
      go_wp2_with fail
      refine SZ.out.mono ?_
      rintro e w2 ⟨rfl, rfl⟩
      go_wp2_with fail
      go_ret
      exact ⟨rfl, rfl⟩

theorem zip_mem {α β : Type} {vs : List α} {ps : List β} (hl : vs.length = ps.length) {y : α} (hy : y ∈ vs) : ∃ q, (y, q) ∈ vs.zip ps := by
  obtain ⟨i, hi, e⟩ := List.getElem_of_mem hy
  have : (vs.zip ps)[i]? = some (vs[i], ps[i]) := by rw [List.getElem?_zip_eq_some]; exact ⟨List.getElem?_eq_getElem _, List.getElem?_eq_getElem _⟩
  exact ⟨ps[i], by rw [← e]; exact List.mem_of_getElem? this⟩
/-- One row more. -/
theorem RowsV.push {base : Nat} {w1 w2 : World} {v v' x : Value} {vs : List Value} {ps : List (List Nat)} {p : List Nat} (hv : RowV 22 base w1 v vs) (hl : vs.length = ps.length) (hi : ∀ y ∈ vs.zip ps, RowB 5 base w1 y.1 y.2)
    (hp : vs.Pairwise (fun a b => ∀ g, a.ownBlock = some g → b.ownBlock ≠ some g)) (hx : RowB 5 base w1 x p) (ha : ∀ y ∈ vs, ∀ g, y.ownBlock = some g → x.ownBlock ≠ some g) (r : RowV 22 base w2 v' (vs ++ [x])) (g : w1.grownBy w2 v.ownBlock) : RowsV base w2 v' (ps ++ [p]) := by
  have keep : ∀ {y : Value} {q : List Nat}, RowB 5 base w1 y q → RowB 5 base w2 y q := fun hy => RowV.kept hy g (fun g' hg e => rows_ne hy hv (by decide) hg e)
  refine ⟨vs ++ [x], r, by simp [hl], fun y hy => ?_, ?_⟩
  · rw [List.zip_append hl] at hy
    rcases List.mem_append.1 hy with h | h
    · exact keep (hi y h)
    · simp at h; subst h; exact keep hx
  · rw [List.pairwise_append]
    refine ⟨hp, List.pairwise_singleton _ _, fun y hy z hz => ?_⟩
    simp at hz; subst hz
    exact ha y hy

set_option maxHeartbeats 1000000 in
theorem twin_at (cs : List (List Nat)) (v : Value) (w : World) (hs : Sml cs) (h : RdR w v cs) : Calls Tryd.prog 19 #[v] w fun e w' => ∃ a c, e = .returned (.slice a cs.length c) ∧ RowsV w.heap.size w' (.slice a cs.length c) cs ∧ Below w.heap.size w w' := by
  obtain ⟨i0, hi, hz0, hz1, hz2⟩ := info_parts infoS
  obtain ⟨ao, cap, rfl, hcap⟩ := h.len
  have HH : Hid (∀ i w', i < cs.length → Below w.heap.size w w' → ∃ g o a' c', ao = some ⟨g, o, none⟩ ∧ w'.cell? ⟨g, o + i, none⟩ = some (.slice a' (cs.getD i []).length c') ∧ Calls Tryd.prog 10 #[.slice a' (cs.getD i []).length c'] w' (NewB w' (cs.getD i []))) := fun i w' hi hb => by
    obtain ⟨g, o, a', c', h1, h2, h3⟩ := (h.later hb).at.2.2 i hi
    exact ⟨g, o, a', c', h1, h2, copied_at _ _ w' (by have := hs.lenD i; omega) h3⟩
  have HN : Hid (∀ i, i < cs.length → cs.take (i + 1) = cs.take i ++ [cs.getD i []]) := fun i hi => take_next cs i hi
  have HF : Hid (cs.take cs.length = cs) := List.take_of_length_le (Nat.le_refl _)
  have HTL : Hid (∀ k, k ≤ cs.length → (cs.take k).length = k) := fun k hk => by rw [List.length_take]; omega
  have hc := hs.cnt
  clear h hs
  obtain ⟨L, hL⟩ : ∃ L, cs.length = L := ⟨_, rfl⟩
  rw [hL] at HH HN HF HTL hc hcap ⊢
  clear hL
  go_enter Tryd.func19, Tryd.ntmps19
  go_wp2_with fail
  go_loopw [3, 4] (fun v vk wr => ∃ k : Nat, vk = .int .i64 (k : Int) ∧ k ≤ L ∧ Hid (RowsV w.heap.size wr v (cs.take k)) ∧ Below w.heap.size w wr) (fun _ vk _ => L - (intOf vk).toNat)
  case atStart => exact ⟨0, rfl, by omega, ⟨[], RowV.nil _ _ _, rfl, (fun x hx => nomatch hx), List.Pairwise.nil⟩, Below.refl _ _⟩
  case round =>
    obtain ⟨k, rfl, hk, hrow, hnx⟩ := hrel
    have hsz := hnx.size
    by_cases hlt : (k : Int) < (L : Int)
    · obtain ⟨g, o, a1, c1, rfl, d1, CP⟩ := HH.out k wr (by omega) hnx
      have CP' : Hid (Calls Tryd.prog 10 #[.slice a1 (cs.getD k []).length c1] wr (NewB wr (cs.getD k []))) := CP
      have HN' : Hid (cs.take (k + 1) = cs.take k ++ [cs.getD k []]) := HN.out k (by omega)
      have HTL' : Hid ((cs.take k).length = k) := HTL.out k hk
      clear CP
      generalize cs.getD k [] = x at *
      obtain ⟨X, hX⟩ : ∃ X, x.length = X := ⟨_, rfl⟩
      rw [hX] at d1 CP'
      clear hX
      obtain ⟨vs, q1, q2, q3, q4⟩ := hrow.out.row
      have HLT : Hid (∀ y ∈ vs, ∀ g, y.ownBlock = some g → g < wr.heap.size) := fun y hy g hg => by
        obtain ⟨q, hq⟩ := zip_mem q2 hy
        exact (q3 _ hq).block_lt hg
      have Q3 : Hid (∀ y ∈ vs.zip (cs.take k), RowB 5 w.heap.size wr y.1 y.2) := q3
      have Q4 : Hid (vs.Pairwise (fun a b => ∀ g, a.ownBlock = some g → b.ownBlock ≠ some g)) := q4
      have Q2 : Hid (vs.length = (cs.take k).length) := q2
      have Q1 : Hid (RowV 22 w.heap.size wr u3 vs) := q1
      clear q1 q2 q3 q4 hrow
      go_wp2_with fail
      refine CP'.out.mono ?_
      rintro e w1 ⟨v1, rfl, r1, b1⟩
      have B1 : Below w.heap.size w w1 := below_trans hnx b1
      have hs1 := B1.size
      have l1 : vs.length + 1 ≤ maxLen := by have := HTL'.out; have := Q2.out; unfold maxLen; omega
      have l2 : (vs.length + 1) * 24 ≤ 140737488355328 := by have := HTL'.out; have := Q2.out; omega
      have own1 : RowV 22 w.heap.size w1 u3 vs := RowV.later Q1.out b1
      have HP : Hid (∀ w2 v', RowV 22 w.heap.size w2 v' (vs ++ [v1]) → w1.grownBy w2 u3.ownBlock → RowsV w.heap.size w2 v' (cs.take (k + 1))) := fun w2 v' r g => by
        rw [HN'.out]
        refine RowsV.push own1 Q2.out (fun y hy => RowV.later (Q3.out y hy) b1) Q4.out (r1.mono hsz) (fun y hy g' hg e => ?_) r g
        have := HLT.out y hy g' hg
        have := r1.block_ge e
        omega
      obtain ⟨a2, c2, rfl, _, _⟩ := (RowV.rd r1).len
      rw [List.length_map] at HP ⊢
      clear r1 b1 CP' Q1 Q2 Q3 Q4 HLT
      go_wp2_with (at_builtin; refine wpList_pushV rfl (.tmp 11) (.tmp 17) 27 rfl 22 i0 (.slice none 0 0) 24 underS hi hz0 hz1 hz2 rfl w.heap.size _ _ _ rfl rfl own1 hs1 rfl l1 l2 ?_; intro v' w2 hown' hgr)
      have HR2 : Hid (RowsV w.heap.size w2 v' (cs.take (k + 1))) := HP.out w2 v' hown' hgr
      have B2 : Below w.heap.size w w2 := below_grown B1 own1 (Nat.le_refl _) hs1 hgr
      clear HP hown' hgr own1
      go_roundw
      case rel => exact ⟨k + 1, by go_num, by omega, HR2, B2⟩
      case measure => simp [intOf]; omega
    · obtain rfl : k = L := by omega
      have HR := hrow.out
      rw [HF.out] at HR
      obtain ⟨a, c, e, _⟩ := HR.rd.len
      have HLC : Hid (k = cs.length) := by have := HTL.out k (Nat.le_refl _); rw [HF.out] at this; exact this.symm
      rw [← HLC.out] at e
      subst e
      have HR' : Hid (RowsV w.heap.size wr (.slice a k c) cs) := HR
      clear HR hrow
      go_wp2_with fail
      go_ret
      exact ⟨a, c, rfl, HR'.out, hnx⟩
end Go.Proofs.YtbalmfghihgmgacDoor
