/-
  Ours: Book.accepted, walked (gen_nwacd.py: THE SEAT's OWN NUMBERS).
-/
import Derived.Test.YtcnhcdlbippjoaaNwAc1
import Derived.Test.YtcnhcdlbippjoaaRegZ
import Derived.Deep.CutRange
namespace Go.Proofs.Ytcnhcdlbippjoaa
open Go.RowKit NwM
set_option linter.unusedSimpArgs false
theorem take_sv {ys : List Ac} {i : Nat} {y : Ac} (h : ys[i]? = some y) : (ys.take (i + 1)).map sv = (ys.take i).map sv ++ [sv y] := by rw [List.take_add_one, h, List.map_append]; rfl
theorem repl_set (m : Nat) (bs : List Nat) {k : Nat} (hk : k < bs.length) : (List.replicate k m ++ bs.drop k).set k m = List.replicate (k + 1) m ++ bs.drop (k + 1) := by
  rw [List.set_append_right _ _ (by simp), List.length_replicate, Nat.sub_self, List.drop_eq_getElem_cons hk, List.set_cons_zero, List.replicate_succ', List.append_assoc]
  rfl
/-- The bodies when the first i are full, and of the next k bytes. -/
def PP (NB : Nat) (ys : List Ac) (i k j : Nat) : List Nat := if j < i then List.replicate (ys.getD j (zA 0)).bs.length (mkN NB j) else if j = i then List.replicate k (mkN NB i) ++ (ys.getD i (zA 0)).bs.drop k else (ys.getD j (zA 0)).bs
theorem PP_len {NB : Nat} {ys : List Ac} {i k j : Nat} (hk : k ≤ (ys.getD i (zA 0)).bs.length) : (PP NB ys i k j).length = (ys.getD j (zA 0)).bs.length := by
  unfold PP
  split
  · rw [List.length_replicate]
  · split
    · rename_i h; subst h; rw [List.length_append, List.length_replicate, List.length_drop]; omega
    · rfl
theorem PP_step {NB : Nat} {ys : List Ac} {i k : Nat} (hk : k < (ys.getD i (zA 0)).bs.length) : upd (PP NB ys i k) i ((PP NB ys i k i).set k (mkN NB i)) = PP NB ys i (k + 1) := by
  funext j
  by_cases e : j = i
  · subst e
    rw [upd_same]
    unfold PP
    rw [if_neg (by omega), if_pos rfl, if_neg (by omega), if_pos rfl, repl_set _ _ hk]
  · rw [upd_ne _ _ e]
    unfold PP
    simp only [e, if_false]
theorem PP_next {NB : Nat} {ys : List Ac} {i k : Nat} (hk : k = (ys.getD i (zA 0)).bs.length) : PP NB ys i k = PP NB ys (i + 1) 0 := by
  funext j
  unfold PP
  by_cases h1 : j < i
  · rw [if_pos h1, if_pos (by omega)]
  · by_cases h2 : j = i
    · subst h2
      rw [if_neg h1, if_pos rfl, if_pos (by omega), hk, List.drop_length, List.append_nil]
    · rw [if_neg h1, if_neg h2, if_neg (by omega)]
      split
      · rename_i h3; subst h3; simp
      · rfl
theorem PP_start (NB : Nat) (ys : List Ac) (j : Nat) : PP NB ys 0 0 j = (ys.getD j (zA 0)).bs := by
  unfold PP
  rw [if_neg (by omega)]
  split
  · rename_i h; subst h; simp
  · rfl
theorem PP_full {NB : Nat} {ys : List Ac} {i j : Nat} (h : j < i) : PP NB ys i 0 j = List.replicate (ys.getD j (zA 0)).bs.length (mkN NB j) := by unfold PP; rw [if_pos h]
set_option maxRecDepth 40000 in
set_option maxHeartbeats 16000000 in
theorem acd_at (Q N : Nat) (W M X : Nat → Prop) (ys : List Ac) (a : Option Addr) (n c base : Nat) (w : World) (h : BkA Q N W M w) (hr : AccL base w (.slice a n c) ys) (hb : base ≤ w.heap.size) (hx : ∀ g, X g → ¬ W g ∧ ¬ M g) (hX : ∀ g, (Value.slice a n c).ownBlock = some g ∨ (∃ y ∈ ys, bkOf y = some g) → X g) (hXl : ∀ g, X g → g < w.heap.size) (hN : N ≤ 1000000000000) (hl : ys.length ≤ 1000000000) (hbl : ∀ y ∈ ys, y.bs.length ≤ 1000000000) :
    Calls Try.prog 26 #[.pointer (some ⟨Q, 0, none⟩), .slice a n c] w fun e w' => e = .returned (.tuple #[]) ∧ BkP Q (N + 2 * ys.length + 1) W M X w w' := by
  obtain ⟨iB, hiB, hb0, hb1, hb2⟩ := info_parts infoB
  obtain ⟨iSB, hiSB, hsb0, hsb1, hsb2⟩ := info_parts infoSB
  obtain ⟨iSA, hiSA, hsa0, hsa1, hsa2⟩ := info_parts infoSA
  obtain ⟨v, V, h1, h2, h3⟩ := h.ex
  have hmw := h.mw
  obtain ⟨NB, hNB⟩ : ∃ NB, (V 3).length = NB := ⟨_, rfl⟩
  obtain ⟨NS, hNS⟩ : ∃ NS, (V 2).length = NS := ⟨_, rfl⟩
  have hNBl : NB ≤ 1000000000000 := by have := h3 3 (by omega); omega
  have hNSl : NS ≤ 1000000000000 := by have := h3 2 (by omega); omega
  have HN : Hid (N ≤ 1000000000000 ∧ base ≤ w.heap.size ∧ (∀ k, k < 5 → (V k).length ≤ N) ∧ (V 3).length = NB ∧ (V 2).length = NS ∧ (V 4).length = NB ∧ ∀ g, M g → ¬ W g) := ⟨hN, hb, h3, hNB, hNS, by rw [h2.lb]; exact hNB, hmw⟩
  have hn : ys.length = n := by
    obtain ⟨_, _, e, -, -⟩ := hr.row.len
    injection e with _ e _
    rw [e]
  have gy : ∀ (j : Nat) y, ys[j]? = some y → ys.getD j (zA 0) = y := fun j y hy => by rw [List.getD_eq_getElem?_getD, hy]; rfl
  have HX : Hid (AX M X ys (.slice a n c) w) := by
    refine ⟨fun i j x y hx' hy hne g e1 e2 => ?_, fun g e => hX g (.inl e), fun j y hy g e => hX g (.inr ⟨y, List.mem_of_getElem? hy, e⟩), fun j y hy g e e2 => row_ne hr.row (own_heap (hr.bd y (List.mem_of_getElem? hy)) e).2 e2 rfl, fun g hg => (hx g hg).2, hXl⟩
    have hp := List.pairwise_iff_getElem.1 hr.nd
    obtain ⟨hi, rfl⟩ := List.getElem?_eq_some_iff.1 hx'
    obtain ⟨hj, rfl⟩ := List.getElem?_eq_some_iff.1 hy
    rcases Nat.lt_or_gt_of_ne hne with z | z
    · exact hp i j hi hj z g e1 e2
    · exact hp j i hj hi z g e2 e1
  have HY : Hid (∀ (j : Nat) y, ys[j]? = some y → ys.getD j (zA 0) = y ∧ y.bs.length = y.bn ∧ y.bn ≤ 1000000000) := fun j y hy => by
    have hy' := List.mem_of_getElem? hy
    obtain ⟨_, _, e, -, -⟩ := (RowV.rd (hr.bd y hy')).len
    injection e with _ e _
    rw [List.length_map] at e
    exact ⟨gy j y hy, e.symm, by rw [e]; exact hbl y hy'⟩
  have A0 : Hid (AC Q base NB W M X V ys w (.slice a n c) ys (PP NB ys 0 0) 0 [] ((ys.take 0).map sv) (mks NB 0) v V W w) := by
    refine ⟨h1, h2, hr.row, fun j y _ hy => ?_, fun j y hj => by omega, fun j u hu => by simp at hu, rfl, rfl, rfl, by simp, by simp [mks], fun g hg => .inl hg, fun g hg => hg.elim (fun z => (hx g z).1) (hmw g), Kp.refl _ _⟩
    rw [PP_start, gy j y hy]
    exact hr.bd y (List.mem_of_getElem? hy)
  rw [hn] at hl
  have HNL : Hid (ys.length = n) := hn
  have q3 := h1.cell (k := 3) (by omega)
  obtain ⟨a3, c3, ev3, -, -⟩ := (RowV.rd (h1.row 3 (by omega))).len
  rw [ev3, hNB] at q3
  have ltQ := h1.lt Q h1.wq
  clear h h1 h2 h3 hmw hN hb hr hx hX hXl hn gy hbl ev3 hNB hNS
  go_enter Try.func26, Try.ntmps26
  go_wp2_with fail
  go_loopw [5, 6, 7] (fun vi _ _ wr => ∃ i : Nat, vi = .int .i64 (i : Int) ∧ i ≤ n ∧ Hid (∃ v' V' W', AC Q base NB W M X V ys w (.slice a n c) ys (PP NB ys i 0) 0 [] ((ys.take i).map sv) (mks NB i) v' V' W' wr)) (fun vi _ _ _ => n - (intOf vi).toNat)
  case atStart => exact ⟨0, rfl, by omega, ⟨v, V, W, A0.out⟩⟩
  case round =>
    clear A0 q3 ltQ
    obtain ⟨i, rfl, hi, HA⟩ := hrel
    by_cases hlt : (i : Int) < (n : Int)
    · obtain ⟨v', V', W', hac⟩ := HA.out
      obtain ⟨y, hy⟩ : ∃ y, ys[i]? = some y := ⟨ys[i]'(by rw [HNL.out]; omega), List.getElem?_eq_getElem _⟩
      have HYI : Hid (ys[i]? = some y) := hy
      obtain ⟨y1, y2, y3⟩ := HY.out i y hy
      have HYY : Hid (ys.getD i (zA 0) = y ∧ y.bs.length = y.bn) := ⟨y1, y2⟩
      clear y1 y2
      have HAC : Hid (AC Q base NB W M X V ys w (.slice a n c) ys (PP NB ys i 0) 0 [] ((ys.take i).map sv) (mks NB i) v' V' W' wr) := hac
      have q3 := hac.bk.cell (k := 3) (by omega)
      obtain ⟨a3, c3, ev3, -, -⟩ := (RowV.rd (hac.bk.row 3 (by omega))).len
      have l3 : (V' 3).length = NB + i := by rw [hac.v3, List.length_append, List.length_map, List.length_take, HN.out.2.2.2.1, HNL.out]; omega
      rw [ev3, l3] at q3
      have ltQ := hac.bk.lt Q hac.bk.wq
      obtain ⟨g, cap, el, hcap, hgl, hgb⟩ := hac.row.some (by rw [HNL.out]; omega)
      rw [HNL.out] at el hcap
      injection el with el _ el3
      subst el el3
      have HACL : Hid (AC Q base NB W M X V ys w (.slice (some ⟨g, 0, none⟩) n c) ys (PP NB ys i 0) 0 [] ((ys.take i).map sv) (mks NB i) v' V' W' wr) := hac
      have ci := (hac.row.cell acL3 hy 2 _ rfl).2
      clear hac HA HAC hy ev3 l3
      have mk1 : ((NB : Int) + (i : Int)) * 2 + 1 = ((2 * (NB + i) + 1 : Nat) : Int) := by omega
      obtain ⟨mk, hmk⟩ : ∃ mk, mkN NB i = mk := ⟨_, rfl⟩
      have HMK : Hid (mkN NB i = mk) := hmk
      have hm : (2 * ((NB : Int) + (i : Int)) + 1) % 256 = (mk : Int) := by rw [← hmk]; unfold mkN; omega
      have hmk8 : mk < 256 := by rw [← hmk]; unfold mkN; omega
      clear hmk
      go_wp2_with fail
      try rw [hm]
      clear hm q3 ci mk1
      go_loopw [7] (fun vk wx => ∃ k : Nat, vk = .int .i64 (k : Int) ∧ k ≤ y.bn ∧ Hid (AC Q base NB W M X V ys w (.slice (some ⟨g, 0, none⟩) n c) ys (PP NB ys i k) 0 [] ((ys.take i).map sv) (mks NB i) v' V' W' wx)) (fun vk _ => y.bn - (intOf vk).toNat)
      case atStart => exact ⟨0, rfl, by omega, HACL⟩
      case round =>
        clear HACL
        obtain ⟨k, rfl, hk, HK⟩ := hrel
        have ci := (HK.out.row.cell acL3 HYI.out 2 _ rfl).2
        have ltg := World.block_lt_of_cell? _ _ ci
        by_cases hlk : (k : Int) < (y.bn : Int)
        · have hlen : (PP NB ys i k i).length = y.bn := by rw [PP_len (by rw [HYY.out.1, HYY.out.2]; omega), HYY.out.1, HYY.out.2]
          obtain ⟨gb, cb, eb, hcb, HCB, hfz⟩ := RowV.own (HK.out.bd i y (Nat.zero_le _) HYI.out) (by rw [List.length_map, hlen]; omega)
          rw [List.length_map, hlen] at eb hcb
          have AF := HK.out.fill HX.out (k := k) (u := mk) HYI.out eb hlen
          rw [← HMK.out, PP_step (by rw [HYY.out.1, HYY.out.2]; omega), HMK.out] at AF
          have AFH : Hid (AC Q base NB W M X V ys w (.slice (some ⟨g, 0, none⟩) n c) ys (PP NB ys i (k + 1)) 0 [] ((ys.take i).map sv) (mks NB i) v' V' W' (wr.setCell ⟨gb, k, none⟩ (.int .u8 ((mk : Nat) : Int)))) := AF
          obtain ⟨uu, hu⟩ : ∃ u, wr.cell? ⟨gb, k, none⟩ = some u := ⟨_, HCB k (by rw [List.length_map, hlen]; omega)⟩
          have fz := hfz k
          have eb' : Value.slice y.ba y.bn y.bc = .slice (some ⟨gb, 0, none⟩) y.bn cb := eb
          rw [eb'] at ci
          clear AF HCB hfz hlen eb eb' HK
          go_wp2_with fail
          go_roundw
          case rel => exact ⟨k + 1, by go_num, by omega, AFH⟩
          case measure => simp [intOf] <;> omega
        · obtain rfl : k = y.bn := by omega
          have A2 : Hid (AC Q base NB W M X V ys w (.slice (some ⟨g, 0, none⟩) n c) ys (PP NB ys (i + 1) 0) 0 [] ((ys.take i).map sv) (mks NB i) v' V' W' wr.drew) := by
            have := HK.out.drew
            rw [PP_next (by rw [HYY.out.1, HYY.out.2])] at this
            exact this
          clear HK
          go_wp2_with fail
          clear ci ltg
          obtain ⟨v3, hv3⟩ : ∃ v3, v' 3 = v3 := ⟨_, rfl⟩
          have HV3 : Hid (v' 3 = v3) := hv3
          have hH : Hid (wr.drew.cell? ⟨Q, 3, none⟩ = some v3) := by have := A2.out.bk.cell (k := 3) (by omega); rw [hv3] at this; exact this
          have ci := (A2.out.row.cell acL3 HYI.out 2 _ rfl).2
          have ltg := World.block_lt_of_cell? _ _ ci
          clear hv3
          refine wp_region_Z (S := fun w' => w'.cell? ⟨Q, 3, none⟩ = some v3) 14 (by kernel_rfl) ?_
          generalize wr.drew = w4 at *
          refine wpAnyZ_take (i := 0) (oi := { dst := some 47, op := Op.move (Operand.tmp 0), type := 38, pos := "law.go:109", after := #[], guard := none }) (v := .pointer (some ⟨Q, 0, none⟩)) rfl (by kernel_rfl) (by kernel_rfl) (by kernel_rfl) (by decide) (fun _ _ _ h => h) (Or.inl ⟨by rfl, fun w' _ => by go_simp⟩) (fun _ => hH.out) ?_
          try simp only [Act.put, List.setIfInBounds_toArray, List.set_cons_zero, List.set_cons_succ]
          refine wpAnyZ_take (i := 1) (oi := { dst := some 48, op := Op.move (Operand.tmp 0), type := 38, pos := "law.go:109", after := #[], guard := none }) (v := .pointer (some ⟨Q, 0, none⟩)) rfl (by kernel_rfl) (by kernel_rfl) (by kernel_rfl) (by decide) (fun _ _ _ h => h) (Or.inl ⟨by rfl, fun w' _ => by go_simp⟩) (fun _ => hH.out) ?_
          try simp only [Act.put, List.setIfInBounds_toArray, List.set_cons_zero, List.set_cons_succ]
          refine wpAnyZ_take (i := 2) (oi := { dst := some 49, op := Op.nilCheck (Operand.tmp 48), type := 0, pos := "law.go:109", after := #[{ on := 1, ground := Ground.data }], guard := none }) (v := .pointer (some ⟨Q, 0, none⟩)) rfl (by kernel_rfl) (by kernel_rfl) (by kernel_rfl) (by decide) (fun _ _ _ h => h) (Or.inl ⟨by rfl, fun w' _ => by go_simp⟩) (fun _ => hH.out) ?_
          try simp only [Act.put, List.setIfInBounds_toArray, List.set_cons_zero, List.set_cons_succ]
          refine wpAnyZ_take (i := 3) (oi := { dst := some 50, op := Op.fieldAddr 43 (Operand.tmp 49) 3, type := 0, pos := "law.go:109", after := #[{ on := 2, ground := Ground.data }], guard := none }) (v := .pointer (some ⟨Q, 3, none⟩)) rfl (by kernel_rfl) (by kernel_rfl) (by kernel_rfl) (by decide) (fun _ _ _ h => h) (Or.inl ⟨by rfl, fun w' _ => by go_simp⟩) (fun _ => hH.out) ?_
          try simp only [Act.put, List.setIfInBounds_toArray, List.set_cons_zero, List.set_cons_succ]
          refine wpAnyZ_held (i := 4) (oi := { dst := some 51, op := Op.load 41 (Operand.tmp 50), type := 41, pos := "law.go:109", after := #[{ on := 3, ground := Ground.data }], guard := none }) (v := v3) rfl (by kernel_rfl) (by kernel_rfl) (by kernel_rfl) (by decide) (fun _ _ _ h => h) (by kernel_rfl) (by kernel_rfl) (Or.inl ⟨by rfl, fun w' hs => by go_simp⟩) (hH.out) ?_
          try simp only [Act.put, List.setIfInBounds_toArray, List.set_cons_zero, List.set_cons_succ]
          refine wpAnyZ_take (i := 5) (oi := { dst := some 52, op := Op.move (Operand.tmp 1), type := 30, pos := "law.go:109", after := #[], guard := none }) (v := .slice (some ⟨g, 0, none⟩) n c) rfl (by kernel_rfl) (by kernel_rfl) (by kernel_rfl) (by decide) (fun _ _ _ h => h) (Or.inl ⟨by rfl, fun w' _ => by go_simp⟩) (fun _ => hH.out) ?_
          try simp only [Act.put, List.setIfInBounds_toArray, List.set_cons_zero, List.set_cons_succ]
          refine wpAnyZ_take (i := 6) (oi := { dst := some 53, op := Op.move (Operand.tmp 5), type := 3, pos := "law.go:109", after := #[], guard := none }) (v := .int .i64 (i : Int)) rfl (by kernel_rfl) (by kernel_rfl) (by kernel_rfl) (by decide) (fun _ _ _ h => h) (Or.inl ⟨by rfl, fun w' _ => by go_simp⟩) (fun _ => hH.out) ?_
          try simp only [Act.put, List.setIfInBounds_toArray, List.set_cons_zero, List.set_cons_succ]
          refine wpAnyZ_take (i := 7) (oi := { dst := some 54, op := Op.indexAddr 30 (Operand.tmp 52) (Operand.tmp 53), type := 0, pos := "law.go:109", after := #[{ on := 5, ground := Ground.data }, { on := 6, ground := Ground.data }], guard := none }) (v := .pointer (some ⟨g, i * 3, none⟩)) rfl (by kernel_rfl) (by kernel_rfl) (by kernel_rfl) (by decide) (fun _ _ _ h => h) (Or.inl ⟨by rfl, fun w' _ => by go_simp⟩) (fun _ => hH.out) ?_
          try simp only [Act.put, List.setIfInBounds_toArray, List.set_cons_zero, List.set_cons_succ]
          refine wpAnyZ_take (i := 8) (oi := { dst := some 55, op := Op.fieldAddr 74 (Operand.tmp 54) 2, type := 0, pos := "law.go:109", after := #[{ on := 7, ground := Ground.data }], guard := none }) (v := .pointer (some ⟨g, i * 3 + 2, none⟩)) rfl (by kernel_rfl) (by kernel_rfl) (by kernel_rfl) (by decide) (fun _ _ _ h => h) (Or.inl ⟨by rfl, fun w' _ => by go_simp⟩) (fun _ => hH.out) ?_
          try simp only [Act.put, List.setIfInBounds_toArray, List.set_cons_zero, List.set_cons_succ]
          refine wpAnyZ_only (i := 9) (o := { dst := some 56, op := Op.load 31 (Operand.tmp 55), type := 31, pos := "law.go:109", after := #[{ on := 8, ground := Ground.data }], guard := none }) (by kernel_rfl) rfl (fun Kx hK => ?_)
          go_simp
          refine hK.out _ _ (fun _ => hH.out) ?_
          clear hK
          try simp only [Act.put, List.setIfInBounds_toArray, List.set_cons_zero, List.set_cons_succ]
          refine wpAnyZ_only (i := 10) (o := { dst := some 57, op := Op.buildSlice 41 1 #[(0, Operand.tmp 56)], type := 41, pos := "law.go:109", after := #[{ on := 9, ground := Ground.data }], guard := none }) (by kernel_rfl) rfl (fun Kx hK => ?_)
          go_simp
          have hC : Hid ((w4.alloc (.cells #[.slice y.ba y.bn y.bc] 31)).cell? ⟨Q, 3, none⟩ = some v3) := ((below_alloc w4 _).cell (p := ⟨Q, 3, none⟩) (World.block_lt_of_cell? _ _ hH.out)).trans hH.out
          refine hK.out _ _ (fun _ => hC.out) ?_
          clear hK
          try simp only [Act.put, List.setIfInBounds_toArray, List.set_cons_zero, List.set_cons_succ]
          refine wpAnyZ_only (i := 11) (o := { dst := some 58, op := Op.call { callee := Callee.builtin Builtin.append, args := #[Operand.tmp 51, Operand.tmp 57], argTypes := #[41, 41] }, type := 41, pos := "law.go:109", after := #[{ on := 4, ground := Ground.data }, { on := 10, ground := Ground.data }], guard := none }) (by kernel_rfl) rfl (fun Kx hK => ?_)
          have own3 : RowV 31 0 w4 v3 (V' 3) := by have := A2.out.bk.row 3 (by omega); rw [HV3.out] at this; exact this
          have l3 : (V' 3).length = NB + i := by rw [A2.out.v3, List.length_append, List.length_map, List.length_take, HN.out.2.2.2.1, HNL.out]; omega
          refine op_pushR rfl (.tmp 51) (.tmp 57) 41 rfl 31 iSB (.slice none 0 0) 24 Try.underlying41 hiSB hsb0 hsb1 hsb2 rfl 0 v3 (V' 3) (.slice y.ba y.bn y.bc) rfl rfl own3 (Nat.zero_le _) rfl (by rw [l3]; unfold maxLen; omega) (by rw [l3]; omega) ?_
          intro a7 n7 c7 w7 r7 g7 hat7
          obtain ⟨p1, p3, p4⟩ := A2.out.push HX.out (k := 3) (nv := .slice a7 n7 c7) (u := sv y) (.inl ⟨rfl, (take_sv HYI.out), rfl⟩) r7 (by rw [HV3.out]; exact g7) (by rw [HV3.out]; exact hat7)
          rw [HV3.out] at p3
          clear own3 l3 r7 g7 hat7
          refine hK.out _ _ (fun _ => p3) ?_
          clear hK
          try simp only [Act.put, List.setIfInBounds_toArray, List.set_cons_zero, List.set_cons_succ]
          refine wpAnyZ_take (i := 12) (oi := { dst := some 59, op := Op.nilCheck (Operand.tmp 47), type := 0, pos := "law.go:109", after := #[{ on := 0, ground := Ground.data }, { on := 0, ground := Ground.phase }, { on := 1, ground := Ground.phase }, { on := 2, ground := Ground.phase }, { on := 3, ground := Ground.phase }, { on := 4, ground := Ground.phase }, { on := 5, ground := Ground.phase }, { on := 6, ground := Ground.phase }, { on := 7, ground := Ground.phase }, { on := 8, ground := Ground.phase }, { on := 9, ground := Ground.phase }, { on := 10, ground := Ground.phase }, { on := 11, ground := Ground.phase }], guard := none }) (v := .pointer (some ⟨Q, 0, none⟩)) rfl (by kernel_rfl) (by kernel_rfl) (by kernel_rfl) (by decide) (fun _ _ _ h => h) (Or.inl ⟨by rfl, fun w' _ => by go_simp⟩) (fun _ => p3) ?_
          try simp only [Act.put, List.setIfInBounds_toArray, List.set_cons_zero, List.set_cons_succ]
          refine wpAnyZ_take (i := 13) (oi := { dst := some 60, op := Op.fieldAddr 43 (Operand.tmp 59) 3, type := 0, pos := "law.go:109", after := #[{ on := 12, ground := Ground.data }, { on := 0, ground := Ground.phase }, { on := 1, ground := Ground.phase }, { on := 2, ground := Ground.phase }, { on := 3, ground := Ground.phase }, { on := 4, ground := Ground.phase }, { on := 5, ground := Ground.phase }, { on := 6, ground := Ground.phase }, { on := 7, ground := Ground.phase }, { on := 8, ground := Ground.phase }, { on := 9, ground := Ground.phase }, { on := 10, ground := Ground.phase }, { on := 11, ground := Ground.phase }], guard := none }) (v := .pointer (some ⟨Q, 3, none⟩)) rfl (by kernel_rfl) (by kernel_rfl) (by kernel_rfl) (by decide) (fun _ _ _ h => h) (Or.inl ⟨by rfl, fun w' _ => by go_simp⟩) (fun _ => p3) ?_
          try simp only [Act.put, List.setIfInBounds_toArray, List.set_cons_zero, List.set_cons_succ]
          refine wpAnyZ_only (i := 14) (o := { dst := none, op := Op.store 41 (Operand.tmp 60) (Operand.tmp 58), type := 0, pos := "law.go:109", after := #[{ on := 13, ground := Ground.data }, { on := 11, ground := Ground.data }, { on := 11, ground := Ground.chain }, { on := 0, ground := Ground.phase }, { on := 1, ground := Ground.phase }, { on := 2, ground := Ground.phase }, { on := 3, ground := Ground.phase }, { on := 4, ground := Ground.phase }, { on := 5, ground := Ground.phase }, { on := 6, ground := Ground.phase }, { on := 7, ground := Ground.phase }, { on := 8, ground := Ground.phase }, { on := 9, ground := Ground.phase }, { on := 10, ground := Ground.phase }, { on := 11, ground := Ground.phase }], guard := none }) (by kernel_rfl) rfl (fun Kx hK => ?_)
          have lt7 := World.block_lt_of_cell? _ _ p3
          go_simp
          refine hK.out _ _ (fun h => nomatch (show true = false from h)) ?_
          clear hK
          try simp only [Act.put, List.setIfInBounds_toArray, List.set_cons_zero, List.set_cons_succ]
          refine wpAnyZ_done (by kernel_rfl) ?_ _
          clear hC hH ci p3 p4 HV3
          have A3 := p1
          clear A2 p1
          generalize upd v' 3 (.slice a7 n7 c7) = vv at *
          generalize upd V' 3 (V' 3 ++ [sv y]) = VV at *
          generalize (fun q => W' q ∨ (Value.slice a7 n7 c7).ownBlock = some q) = WW at *
          generalize w7.setCell ⟨Q, 3, none⟩ (.slice a7 n7 c7) = w8 at *
          have A4 : Hid (AC Q base NB W M X V ys w (.slice (some ⟨g, 0, none⟩) n c) ys (PP NB ys (i + 1) 0) 0 [] ((ys.take (i + 1)).map sv) (mks NB i) vv VV WW w8) := A3
          clear A3
          obtain ⟨v4, hv4⟩ : ∃ v4, vv 4 = v4 := ⟨_, rfl⟩
          have HV4 : Hid (vv 4 = v4) := hv4
          have q4 := A4.out.bk.cell (k := 4) (by omega)
          have own4 : RowV 5 0 w8 (vv 4) (VV 4) := A4.out.bk.row 4 (by omega)
          have ltQ := A4.out.bk.lt Q A4.out.bk.wq
          have l4 : (VV 4).length = NB + i := by rw [A4.out.v4, List.length_append, mks_len, HN.out.2.2.2.2.2.1]
          rw [hv4] at q4 own4
          rw [RowV, l4] at own4
          have PU : Hid (∀ (g2 cap2 : Nat) (w2 : World), w2.ownsRow 0 5 1 (.slice (some ⟨g2, 0, none⟩) (NB + i + 1) cap2) (NB + i + 1) (VV 4 ++ [.int .u8 (mk : Int)]) → w8.grownBy w2 v4.ownBlock → (v4.ownBlock = some g2 ∨ w8.heap.size ≤ g2) →
              (∃ v' V' W', AC Q base NB W M X V ys w (.slice (some ⟨g, 0, none⟩) n c) ys (PP NB ys (i + 1) 0) 0 [] ((ys.take (i + 1)).map sv) (mks NB (i + 1)) v' V' W' (w2.setCell ⟨Q, 4, none⟩ (.slice (some ⟨g2, 0, none⟩) (NB + i + 1) cap2))) ∧ w2.cell? ⟨Q, 4, none⟩ = some v4 ∧ w2.frozen? ⟨Q, 4, none⟩ = false) := fun g2 cap2 w2 r2 gr2 hh => by
            have := A4.out.push HX.out (k := 4) (nv := .slice (some ⟨g2, 0, none⟩) (NB + i + 1) cap2) (u := bv mk) (B2' := mks NB (i + 1)) (.inr ⟨rfl, rfl, by rw [mks_succ, HMK.out]⟩) (by show RowV 5 0 _ _ _; rw [RowV, List.length_append, l4]; exact r2) (by rw [HV4.out]; exact gr2) (fun q e => by
              have e3 : g2 = q := by simpa [Value.ownBlock] using e
              rw [HV4.out, ← e3]; exact hh)
            rw [HV4.out] at this
            exact ⟨⟨_, _, _, this.1⟩, this.2⟩
          have l4a : NB + i + 1 ≤ maxLen := by unfold maxLen; omega
          have l4b : (NB + i + 1) * 1 ≤ 140737488355328 := by omega
          clear hv4 l4
          go_wp2_with (at_builtin; refine wpList_pushR rfl (.tmp 65) (.tmp 67) 31 rfl 5 iB (.int .u8 0) 1 1 underB hiB hb0 hb1 hb2 rfl (by decide) 0 v4 (NB + i) (VV 4) [.int .u8 (mk : Int)] rfl (fun u hu => by simp at hu; subst hu; rfl) rfl own4 (Nat.zero_le _) rfl l4a l4b ?_; intro g2 cap2 w2 r2 gr2 hat2; obtain ⟨P1, P3, P4⟩ := PU.out g2 cap2 w2 r2 gr2 hat2)
          have P1H := (show Hid _ from P1)
          clear P1 P3 P4 PU r2 gr2 hat2 own4 q4 A4
          go_wp2_with fail
          go_roundw
          case rel => exact ⟨i + 1, by go_num, by omega, P1H⟩
          case measure => simp [intOf] <;> omega
    · obtain rfl : i = n := by omega
      have A5 : Hid (∃ v' V' W' L2, L2.length = 0 ∧ AC Q base NB W M X V ys w (.slice a i c) (List.replicate 0 (zA NS) ++ ys.drop 0) (PP NB ys i 0) 0 L2 (ys.map sv ++ L2) (mks NB i ++ mks NB 0) v' V' W' wr) := by
        obtain ⟨v', V', W', hh⟩ := HA.out
        refine ⟨v', V', W', [], rfl, ?_⟩
        rw [List.take_of_length_le (by rw [HNL.out]; exact Nat.le_refl _)] at hh
        simpa [mks] using hh
      clear HA
      go_wp2_with fail
      go_loopw [8, 9] (fun vj _ wx => ∃ j : Nat, vj = .int .i64 (j : Int) ∧ j ≤ i ∧ Hid (∃ v' V' W' L2, L2.length = j ∧ AC Q base NB W M X V ys w (.slice a i c) (List.replicate j (zA NS) ++ ys.drop j) (PP NB ys i 0) j L2 (ys.map sv ++ L2) (mks NB i ++ mks NB j) v' V' W' wx)) (fun vj _ _ => i - (intOf vj).toNat)
      case atStart => exact ⟨0, rfl, by omega, A5⟩
      case round =>
        clear A5
        obtain ⟨j, rfl, hj, HA⟩ := hrel
        by_cases hlj : (j : Int) < (i : Int)
        · obtain ⟨v', V', W', L2, hL2, hac⟩ := HA.out
          have HL2 : Hid (L2.length = j) := hL2
          obtain ⟨y, hy⟩ : ∃ y, ys[j]? = some y := ⟨ys[j]'(by rw [HNL.out]; omega), List.getElem?_eq_getElem _⟩
          have HYI : Hid (ys[j]? = some y) := hy
          obtain ⟨y1, y2, y3⟩ := HY.out j y hy
          have hzl : (List.replicate j (zA NS) ++ ys.drop j).length = i := by rw [List.length_append, List.length_replicate, List.length_drop, HNL.out]; omega
          obtain ⟨g, cap, el, hcap, hgl, hgb⟩ := hac.row.some (by rw [hzl]; omega)
          rw [hzl] at el hcap
          have HZL : Hid ((List.replicate j (zA NS) ++ ys.drop j).length = i) := hzl
          injection el with el _ el3
          subst el el3
          have HP : Hid (PP NB ys i 0 j = List.replicate y.bn (mkN NB j)) := by show _ = _; rw [PP_full (by omega), y1, y2]
          have HAC : Hid (AC Q base NB W M X V ys w (.slice (some ⟨g, 0, none⟩) i c) (List.replicate j (zA NS) ++ ys.drop j) (PP NB ys i 0) j L2 (ys.map sv ++ L2) (mks NB i ++ mks NB j) v' V' W' wr) := hac
          have ci := (hac.row.cell acL3 (rep_at NS hy) 2 _ rfl).2
          have ltg := World.block_lt_of_cell? _ _ ci
          have ownb : RowV 5 base wr (.slice y.ba y.bn y.bc) ((PP NB ys i 0 j).map bv) := hac.bd j y (Nat.le_refl _) hy
          have hbase : base ≤ wr.heap.size := Nat.le_trans HN.out.2.1 hac.kp.size
          have hlb : ((PP NB ys i 0 j).map bv).length ≤ 1000000000000 := by rw [List.length_map, HP.out, List.length_replicate]; omega
          clear hac HA hy y1 y2 hL2 hzl
          go_wp2_with (at_builtin; refine wpList_zerosR rfl (.tmp 81) (.const (.int .i64 64)) rfl base _ _ rfl ownb hbase rfl hlb ?_; intro ao nn cp w2 gr2 ro2 rn2 loc2)
          have hnn : nn = y.bn + 64 := by
            obtain ⟨_, _, e1, -⟩ := (RowV.rd rn2).len
            injection e1 with _ e1 _
            rw [e1, List.length_append, List.length_map, HP.out, List.length_replicate, z64_len]
          obtain ⟨gn, cn, en, hcn, -, -⟩ := RowV.own rn2 (by rw [List.length_append, z64_len]; omega)
          have AL := HAC.out.long HX.out HL2.out HYI.out HP.out gr2 ro2 rn2 loc2
          rw [List.length_append, List.length_map, HP.out, List.length_replicate, z64_len] at en hcn
          injection en with en1 en2 en3
          subst en1 en3
          clear en2
          subst hnn
          have A6 : Hid (AC Q base NB W M X V ys w (.slice (some ⟨g, 0, none⟩) i c) (List.replicate j (zA NS) ++ ys.drop j) (PP NB ys i 0) (j + 1) (L2 ++ [.slice (some ⟨gn, 0, none⟩) y.bn cp]) (ys.map sv ++ L2) (mks NB i ++ mks NB j) v' V' W' w2.drew) := AL.drew
          clear AL gr2 ro2 rn2 loc2 ownb hbase hlb ci ltg HAC
          go_wp2_with fail
          obtain ⟨v3, hv3⟩ : ∃ v3, v' 3 = v3 := ⟨_, rfl⟩
          have HV3 : Hid (v' 3 = v3) := hv3
          have hH : Hid (w2.drew.cell? ⟨Q, 3, none⟩ = some v3) := by have := A6.out.bk.cell (k := 3) (by omega); rw [hv3] at this; exact this
          have ci := (A6.out.row.cell acL3 (rep_at NS HYI.out) 2 _ rfl).2
          have ltg := World.block_lt_of_cell? _ _ ci
          have hbc : y.bn ≤ cp := by omega
          clear hv3
          refine wp_region_Z (S := fun w' => w'.cell? ⟨Q, 3, none⟩ = some v3) 17 (by kernel_rfl) ?_
          generalize w2.drew = w4 at *
          refine wpAnyZ_take (i := 0) (oi := { dst := some 83, op := Op.move (Operand.tmp 0), type := 38, pos := "law.go:114", after := #[], guard := none }) (v := .pointer (some ⟨Q, 0, none⟩)) rfl (by kernel_rfl) (by kernel_rfl) (by kernel_rfl) (by decide) (fun _ _ _ h => h) (Or.inl ⟨by rfl, fun w' _ => by go_simp⟩) (fun _ => hH.out) ?_
          try simp only [Act.put, List.setIfInBounds_toArray, List.set_cons_zero, List.set_cons_succ]
          refine wpAnyZ_take (i := 1) (oi := { dst := some 84, op := Op.move (Operand.tmp 0), type := 38, pos := "law.go:114", after := #[], guard := none }) (v := .pointer (some ⟨Q, 0, none⟩)) rfl (by kernel_rfl) (by kernel_rfl) (by kernel_rfl) (by decide) (fun _ _ _ h => h) (Or.inl ⟨by rfl, fun w' _ => by go_simp⟩) (fun _ => hH.out) ?_
          try simp only [Act.put, List.setIfInBounds_toArray, List.set_cons_zero, List.set_cons_succ]
          refine wpAnyZ_take (i := 2) (oi := { dst := some 85, op := Op.nilCheck (Operand.tmp 84), type := 0, pos := "law.go:114", after := #[{ on := 1, ground := Ground.data }], guard := none }) (v := .pointer (some ⟨Q, 0, none⟩)) rfl (by kernel_rfl) (by kernel_rfl) (by kernel_rfl) (by decide) (fun _ _ _ h => h) (Or.inl ⟨by rfl, fun w' _ => by go_simp⟩) (fun _ => hH.out) ?_
          try simp only [Act.put, List.setIfInBounds_toArray, List.set_cons_zero, List.set_cons_succ]
          refine wpAnyZ_take (i := 3) (oi := { dst := some 86, op := Op.fieldAddr 43 (Operand.tmp 85) 3, type := 0, pos := "law.go:114", after := #[{ on := 2, ground := Ground.data }], guard := none }) (v := .pointer (some ⟨Q, 3, none⟩)) rfl (by kernel_rfl) (by kernel_rfl) (by kernel_rfl) (by decide) (fun _ _ _ h => h) (Or.inl ⟨by rfl, fun w' _ => by go_simp⟩) (fun _ => hH.out) ?_
          try simp only [Act.put, List.setIfInBounds_toArray, List.set_cons_zero, List.set_cons_succ]
          refine wpAnyZ_held (i := 4) (oi := { dst := some 87, op := Op.load 41 (Operand.tmp 86), type := 41, pos := "law.go:114", after := #[{ on := 3, ground := Ground.data }], guard := none }) (v := v3) rfl (by kernel_rfl) (by kernel_rfl) (by kernel_rfl) (by decide) (fun _ _ _ h => h) (by kernel_rfl) (by kernel_rfl) (Or.inl ⟨by rfl, fun w' hs => by go_simp⟩) (hH.out) ?_
          try simp only [Act.put, List.setIfInBounds_toArray, List.set_cons_zero, List.set_cons_succ]
          refine wpAnyZ_take (i := 5) (oi := { dst := some 88, op := Op.move (Operand.tmp 9), type := 31, pos := "law.go:114", after := #[], guard := none }) (v := .slice (some ⟨gn, 0, none⟩) (y.bn + 64) cp) rfl (by kernel_rfl) (by kernel_rfl) (by kernel_rfl) (by decide) (fun _ _ _ h => h) (Or.inl ⟨by rfl, fun w' _ => by go_simp⟩) (fun _ => hH.out) ?_
          try simp only [Act.put, List.setIfInBounds_toArray, List.set_cons_zero, List.set_cons_succ]
          refine wpAnyZ_take (i := 6) (oi := { dst := some 89, op := Op.move (Operand.tmp 1), type := 30, pos := "law.go:114", after := #[], guard := none }) (v := .slice (some ⟨g, 0, none⟩) i c) rfl (by kernel_rfl) (by kernel_rfl) (by kernel_rfl) (by decide) (fun _ _ _ h => h) (Or.inl ⟨by rfl, fun w' _ => by go_simp⟩) (fun _ => hH.out) ?_
          try simp only [Act.put, List.setIfInBounds_toArray, List.set_cons_zero, List.set_cons_succ]
          refine wpAnyZ_take (i := 7) (oi := { dst := some 90, op := Op.move (Operand.tmp 8), type := 3, pos := "law.go:114", after := #[], guard := none }) (v := .int .i64 (j : Int)) rfl (by kernel_rfl) (by kernel_rfl) (by kernel_rfl) (by decide) (fun _ _ _ h => h) (Or.inl ⟨by rfl, fun w' _ => by go_simp⟩) (fun _ => hH.out) ?_
          try simp only [Act.put, List.setIfInBounds_toArray, List.set_cons_zero, List.set_cons_succ]
          refine wpAnyZ_take (i := 8) (oi := { dst := some 91, op := Op.indexAddr 30 (Operand.tmp 89) (Operand.tmp 90), type := 0, pos := "law.go:114", after := #[{ on := 6, ground := Ground.data }, { on := 7, ground := Ground.data }], guard := none }) (v := .pointer (some ⟨g, j * 3, none⟩)) rfl (by kernel_rfl) (by kernel_rfl) (by kernel_rfl) (by decide) (fun _ _ _ h => h) (Or.inl ⟨by rfl, fun w' _ => by go_simp⟩) (fun _ => hH.out) ?_
          try simp only [Act.put, List.setIfInBounds_toArray, List.set_cons_zero, List.set_cons_succ]
          refine wpAnyZ_take (i := 9) (oi := { dst := some 92, op := Op.fieldAddr 74 (Operand.tmp 91) 2, type := 0, pos := "law.go:114", after := #[{ on := 8, ground := Ground.data }], guard := none }) (v := .pointer (some ⟨g, j * 3 + 2, none⟩)) rfl (by kernel_rfl) (by kernel_rfl) (by kernel_rfl) (by decide) (fun _ _ _ h => h) (Or.inl ⟨by rfl, fun w' _ => by go_simp⟩) (fun _ => hH.out) ?_
          try simp only [Act.put, List.setIfInBounds_toArray, List.set_cons_zero, List.set_cons_succ]
          refine wpAnyZ_only (i := 10) (o := { dst := some 93, op := Op.load 31 (Operand.tmp 92), type := 31, pos := "law.go:114", after := #[{ on := 9, ground := Ground.data }], guard := none }) (by kernel_rfl) rfl (fun Kx hK => ?_)
          go_simp
          refine hK.out _ _ (fun _ => hH.out) ?_
          clear hK
          try simp only [Act.put, List.setIfInBounds_toArray, List.set_cons_zero, List.set_cons_succ]
          refine wpAnyZ_take (i := 11) (oi := { dst := some 94, op := Op.call { callee := Callee.builtin Builtin.len, args := #[Operand.tmp 93], argTypes := #[31] }, type := 3, pos := "law.go:114", after := #[{ on := 10, ground := Ground.data }], guard := none }) (v := .int .i64 (y.bn : Int)) rfl (by kernel_rfl) (by kernel_rfl) (by kernel_rfl) (by decide) (fun _ _ _ h => h) (Or.inl ⟨by rfl, fun w' _ => by go_simp⟩) (fun _ => hH.out) ?_
          try simp only [Act.put, List.setIfInBounds_toArray, List.set_cons_zero, List.set_cons_succ]
          refine wpAnyZ_take (i := 12) (oi := { dst := some 95, op := Op.slice 31 (Operand.tmp 88) none (some (Operand.tmp 94)) none, type := 31, pos := "law.go:114", after := #[{ on := 5, ground := Ground.data }, { on := 11, ground := Ground.data }], guard := none }) (v := .slice (some ⟨gn, 0, none⟩) y.bn cp) rfl (by kernel_rfl) (by kernel_rfl) (by kernel_rfl) (by decide) (fun _ _ _ h => h) (Or.inl ⟨by rfl, fun w' _ => by go_simp⟩) (fun _ => hH.out) ?_
          try simp only [Act.put, List.setIfInBounds_toArray, List.set_cons_zero, List.set_cons_succ]
          refine wpAnyZ_only (i := 13) (o := { dst := some 96, op := Op.buildSlice 41 1 #[(0, Operand.tmp 95)], type := 41, pos := "law.go:114", after := #[{ on := 12, ground := Ground.data }], guard := none }) (by kernel_rfl) rfl (fun Kx hK => ?_)
          go_simp
          have hC : Hid ((w4.alloc (.cells #[.slice (some ⟨gn, 0, none⟩) y.bn cp] 31)).cell? ⟨Q, 3, none⟩ = some v3) := ((below_alloc w4 _).cell (p := ⟨Q, 3, none⟩) (World.block_lt_of_cell? _ _ hH.out)).trans hH.out
          refine hK.out _ _ (fun _ => hC.out) ?_
          clear hK
          try simp only [Act.put, List.setIfInBounds_toArray, List.set_cons_zero, List.set_cons_succ]
          refine wpAnyZ_only (i := 14) (o := { dst := some 97, op := Op.call { callee := Callee.builtin Builtin.append, args := #[Operand.tmp 87, Operand.tmp 96], argTypes := #[41, 41] }, type := 41, pos := "law.go:114", after := #[{ on := 4, ground := Ground.data }, { on := 13, ground := Ground.data }], guard := none }) (by kernel_rfl) rfl (fun Kx hK => ?_)
          have own3 : RowV 31 0 w4 v3 (V' 3) := by have := A6.out.bk.row 3 (by omega); rw [HV3.out] at this; exact this
          have l3 : (V' 3).length = NB + i + j := by rw [A6.out.v3, List.length_append, List.length_append, List.length_map, HN.out.2.2.2.1, HNL.out, HL2.out]; omega
          refine op_pushR rfl (.tmp 87) (.tmp 96) 41 rfl 31 iSB (.slice none 0 0) 24 Try.underlying41 hiSB hsb0 hsb1 hsb2 rfl 0 v3 (V' 3) (.slice (some ⟨gn, 0, none⟩) y.bn cp) rfl rfl own3 (Nat.zero_le _) rfl (by rw [l3]; unfold maxLen; omega) (by rw [l3]; omega) ?_
          intro a7 n7 c7 w7 r7 g7 hat7
          obtain ⟨p1, p3, p4⟩ := A6.out.push HX.out (k := 3) (nv := .slice a7 n7 c7) (u := .slice (some ⟨gn, 0, none⟩) y.bn cp) (B1' := ys.map sv ++ (L2 ++ [.slice (some ⟨gn, 0, none⟩) y.bn cp])) (.inl ⟨rfl, (List.append_assoc _ _ _).symm, rfl⟩) r7 (by rw [HV3.out]; exact g7) (by rw [HV3.out]; exact hat7)
          rw [HV3.out] at p3
          clear own3 l3 r7 g7 hat7
          refine hK.out _ _ (fun _ => p3) ?_
          clear hK
          try simp only [Act.put, List.setIfInBounds_toArray, List.set_cons_zero, List.set_cons_succ]
          refine wpAnyZ_take (i := 15) (oi := { dst := some 98, op := Op.nilCheck (Operand.tmp 83), type := 0, pos := "law.go:114", after := #[{ on := 0, ground := Ground.data }, { on := 0, ground := Ground.phase }, { on := 1, ground := Ground.phase }, { on := 2, ground := Ground.phase }, { on := 3, ground := Ground.phase }, { on := 4, ground := Ground.phase }, { on := 5, ground := Ground.phase }, { on := 6, ground := Ground.phase }, { on := 7, ground := Ground.phase }, { on := 8, ground := Ground.phase }, { on := 9, ground := Ground.phase }, { on := 10, ground := Ground.phase }, { on := 11, ground := Ground.phase }, { on := 12, ground := Ground.phase }, { on := 13, ground := Ground.phase }, { on := 14, ground := Ground.phase }], guard := none }) (v := .pointer (some ⟨Q, 0, none⟩)) rfl (by kernel_rfl) (by kernel_rfl) (by kernel_rfl) (by decide) (fun _ _ _ h => h) (Or.inl ⟨by rfl, fun w' _ => by go_simp⟩) (fun _ => p3) ?_
          try simp only [Act.put, List.setIfInBounds_toArray, List.set_cons_zero, List.set_cons_succ]
          refine wpAnyZ_take (i := 16) (oi := { dst := some 99, op := Op.fieldAddr 43 (Operand.tmp 98) 3, type := 0, pos := "law.go:114", after := #[{ on := 15, ground := Ground.data }, { on := 0, ground := Ground.phase }, { on := 1, ground := Ground.phase }, { on := 2, ground := Ground.phase }, { on := 3, ground := Ground.phase }, { on := 4, ground := Ground.phase }, { on := 5, ground := Ground.phase }, { on := 6, ground := Ground.phase }, { on := 7, ground := Ground.phase }, { on := 8, ground := Ground.phase }, { on := 9, ground := Ground.phase }, { on := 10, ground := Ground.phase }, { on := 11, ground := Ground.phase }, { on := 12, ground := Ground.phase }, { on := 13, ground := Ground.phase }, { on := 14, ground := Ground.phase }], guard := none }) (v := .pointer (some ⟨Q, 3, none⟩)) rfl (by kernel_rfl) (by kernel_rfl) (by kernel_rfl) (by decide) (fun _ _ _ h => h) (Or.inl ⟨by rfl, fun w' _ => by go_simp⟩) (fun _ => p3) ?_
          try simp only [Act.put, List.setIfInBounds_toArray, List.set_cons_zero, List.set_cons_succ]
          refine wpAnyZ_only (i := 17) (o := { dst := none, op := Op.store 41 (Operand.tmp 99) (Operand.tmp 97), type := 0, pos := "law.go:114", after := #[{ on := 16, ground := Ground.data }, { on := 14, ground := Ground.data }, { on := 14, ground := Ground.chain }, { on := 0, ground := Ground.phase }, { on := 1, ground := Ground.phase }, { on := 2, ground := Ground.phase }, { on := 3, ground := Ground.phase }, { on := 4, ground := Ground.phase }, { on := 5, ground := Ground.phase }, { on := 6, ground := Ground.phase }, { on := 7, ground := Ground.phase }, { on := 8, ground := Ground.phase }, { on := 9, ground := Ground.phase }, { on := 10, ground := Ground.phase }, { on := 11, ground := Ground.phase }, { on := 12, ground := Ground.phase }, { on := 13, ground := Ground.phase }, { on := 14, ground := Ground.phase }], guard := none }) (by kernel_rfl) rfl (fun Kx hK => ?_)
          have lt7 := World.block_lt_of_cell? _ _ p3
          go_simp
          refine hK.out _ _ (fun h => nomatch (show true = false from h)) ?_
          clear hK
          try simp only [Act.put, List.setIfInBounds_toArray, List.set_cons_zero, List.set_cons_succ]
          refine wpAnyZ_done (by kernel_rfl) ?_ _
          have A7 : Hid _ := p1
          clear hC hH ci p3 p4 HV3 A6 p1
          have A7 : Hid (∃ v' V' W', AC Q base NB W M X V ys w (.slice (some ⟨g, 0, none⟩) i c) (List.replicate j (zA NS) ++ ys.drop j) (PP NB ys i 0) (j + 1) (L2 ++ [.slice (some ⟨gn, 0, none⟩) y.bn cp]) (ys.map sv ++ (L2 ++ [.slice (some ⟨gn, 0, none⟩) y.bn cp])) (mks NB i ++ mks NB j) v' V' W' (w7.setCell ⟨Q, 3, none⟩ (.slice a7 n7 c7)).drew) := ⟨_, _, _, A7.out.drew⟩
          generalize w7.setCell ⟨Q, 3, none⟩ (.slice a7 n7 c7) = w8 at *
          obtain ⟨vv, VV, WW, a7c⟩ := A7.out
          have A8 : Hid (AC Q base NB W M X V ys w (.slice (some ⟨g, 0, none⟩) i c) (List.replicate j (zA NS) ++ ys.drop j) (PP NB ys i 0) (j + 1) (L2 ++ [.slice (some ⟨gn, 0, none⟩) y.bn cp]) (ys.map sv ++ (L2 ++ [.slice (some ⟨gn, 0, none⟩) y.bn cp])) (mks NB i ++ mks NB j) vv VV WW w8.drew) := a7c
          clear A7 a7c
          go_wp2_with fail
          have l4 : (VV 4).length = NB + i + j := by rw [A8.out.v4, List.length_append, List.length_append, mks_len, mks_len, HN.out.2.2.2.2.2.1]; omega
          obtain ⟨gm, cm, e4, hcm, HC4, -⟩ := RowV.own (A8.out.bk.row 4 (by omega)) (by rw [l4]; omega)
          rw [l4] at e4 hcm
          have HV4 : Hid (vv 4 = .slice (some ⟨gm, 0, none⟩) (NB + i + j) cm ∧ (VV 4).length = NB + i + j) := ⟨e4, l4⟩
          have cm4 : w8.drew.cell? ⟨gm, NB + j, none⟩ = some (.int .u8 ((mkN NB j : Nat) : Int)) := by
            have := HC4 (NB + j) (by rw [l4]; omega)
            rw [this]
            have e5 : (VV 4)[NB + j]? = some (bv (mkN NB j)) := by
              rw [A8.out.v4, List.getElem?_append_right (by rw [HN.out.2.2.2.2.2.1]; omega), HN.out.2.2.2.2.2.1, show NB + j - NB = j by omega, List.getElem?_append_left (by rw [mks_len]; omega), mks_at (by omega)]
            rw [List.getElem?_eq_getElem (by rw [l4]; omega)] at e5
            exact e5
          have ltm := World.block_lt_of_cell? _ _ cm4
          have hH : Hid (w8.drew.cell? ⟨Q, 4, none⟩ = some (.slice (some ⟨gm, 0, none⟩) (NB + i + j) cm)) := by have := A8.out.bk.cell (k := 4) (by omega); rw [e4] at this; exact this
          have HMK : Hid (mkN NB j < 256) := by show _ < _; unfold mkN; omega
          obtain ⟨mk, hmk⟩ : ∃ mk, mkN NB j = mk := ⟨_, rfl⟩
          have HMQ : Hid (mkN NB j = mk) := hmk
          rw [hmk] at cm4
          have hw1 : IntKind.i64.wrap ((NB : Int) + (j : Int)) = (NB : Int) + (j : Int) := by rw [IntKind.wrap_i64]; omega
          have hw2 : 0 ≤ (NB : Int) + (j : Int) := by omega
          have hw3 : (NB : Int) < (NB : Int) + (i : Int) := by omega
          have hw4 : ((NB : Int) + (j : Int)).toNat = NB + j := by omega
          clear e4 l4 HC4 hmk
          refine wp_region_Z (S := fun w' => w'.cell? ⟨Q, 4, none⟩ = some (.slice (some ⟨gm, 0, none⟩) (NB + i + j) cm)) 18 (by kernel_rfl) ?_
          generalize w8.drew = w4 at *
          refine wpAnyZ_take (i := 0) (oi := { dst := some 100, op := Op.move (Operand.tmp 0), type := 38, pos := "law.go:115", after := #[], guard := none }) (v := .pointer (some ⟨Q, 0, none⟩)) rfl (by kernel_rfl) (by kernel_rfl) (by kernel_rfl) (by decide) (fun _ _ _ h => h) (Or.inl ⟨by rfl, fun w' _ => by go_simp⟩) (fun _ => hH.out) ?_
          try simp only [Act.put, List.setIfInBounds_toArray, List.set_cons_zero, List.set_cons_succ]
          refine wpAnyZ_take (i := 1) (oi := { dst := some 101, op := Op.move (Operand.tmp 0), type := 38, pos := "law.go:115", after := #[], guard := none }) (v := .pointer (some ⟨Q, 0, none⟩)) rfl (by kernel_rfl) (by kernel_rfl) (by kernel_rfl) (by decide) (fun _ _ _ h => h) (Or.inl ⟨by rfl, fun w' _ => by go_simp⟩) (fun _ => hH.out) ?_
          try simp only [Act.put, List.setIfInBounds_toArray, List.set_cons_zero, List.set_cons_succ]
          refine wpAnyZ_take (i := 2) (oi := { dst := some 102, op := Op.nilCheck (Operand.tmp 101), type := 0, pos := "law.go:115", after := #[{ on := 1, ground := Ground.data }], guard := none }) (v := .pointer (some ⟨Q, 0, none⟩)) rfl (by kernel_rfl) (by kernel_rfl) (by kernel_rfl) (by decide) (fun _ _ _ h => h) (Or.inl ⟨by rfl, fun w' _ => by go_simp⟩) (fun _ => hH.out) ?_
          try simp only [Act.put, List.setIfInBounds_toArray, List.set_cons_zero, List.set_cons_succ]
          refine wpAnyZ_take (i := 3) (oi := { dst := some 103, op := Op.fieldAddr 43 (Operand.tmp 102) 4, type := 0, pos := "law.go:115", after := #[{ on := 2, ground := Ground.data }], guard := none }) (v := .pointer (some ⟨Q, 4, none⟩)) rfl (by kernel_rfl) (by kernel_rfl) (by kernel_rfl) (by decide) (fun _ _ _ h => h) (Or.inl ⟨by rfl, fun w' _ => by go_simp⟩) (fun _ => hH.out) ?_
          try simp only [Act.put, List.setIfInBounds_toArray, List.set_cons_zero, List.set_cons_succ]
          refine wpAnyZ_held (i := 4) (oi := { dst := some 104, op := Op.load 31 (Operand.tmp 103), type := 31, pos := "law.go:115", after := #[{ on := 3, ground := Ground.data }], guard := none }) (v := .slice (some ⟨gm, 0, none⟩) (NB + i + j) cm) rfl (by kernel_rfl) (by kernel_rfl) (by kernel_rfl) (by decide) (fun _ _ _ h => h) (by kernel_rfl) (by kernel_rfl) (Or.inl ⟨by rfl, fun w' hs => by go_simp⟩) (hH.out) ?_
          try simp only [Act.put, List.setIfInBounds_toArray, List.set_cons_zero, List.set_cons_succ]
          refine wpAnyZ_take (i := 5) (oi := { dst := some 105, op := Op.move (Operand.tmp 0), type := 38, pos := "law.go:115", after := #[], guard := none }) (v := .pointer (some ⟨Q, 0, none⟩)) rfl (by kernel_rfl) (by kernel_rfl) (by kernel_rfl) (by decide) (fun _ _ _ h => h) (Or.inl ⟨by rfl, fun w' _ => by go_simp⟩) (fun _ => hH.out) ?_
          try simp only [Act.put, List.setIfInBounds_toArray, List.set_cons_zero, List.set_cons_succ]
          refine wpAnyZ_take (i := 6) (oi := { dst := some 106, op := Op.nilCheck (Operand.tmp 105), type := 0, pos := "law.go:115", after := #[{ on := 5, ground := Ground.data }], guard := none }) (v := .pointer (some ⟨Q, 0, none⟩)) rfl (by kernel_rfl) (by kernel_rfl) (by kernel_rfl) (by decide) (fun _ _ _ h => h) (Or.inl ⟨by rfl, fun w' _ => by go_simp⟩) (fun _ => hH.out) ?_
          try simp only [Act.put, List.setIfInBounds_toArray, List.set_cons_zero, List.set_cons_succ]
          refine wpAnyZ_take (i := 7) (oi := { dst := some 107, op := Op.fieldAddr 43 (Operand.tmp 106) 4, type := 0, pos := "law.go:115", after := #[{ on := 6, ground := Ground.data }], guard := none }) (v := .pointer (some ⟨Q, 4, none⟩)) rfl (by kernel_rfl) (by kernel_rfl) (by kernel_rfl) (by decide) (fun _ _ _ h => h) (Or.inl ⟨by rfl, fun w' _ => by go_simp⟩) (fun _ => hH.out) ?_
          try simp only [Act.put, List.setIfInBounds_toArray, List.set_cons_zero, List.set_cons_succ]
          refine wpAnyZ_held (i := 8) (oi := { dst := some 108, op := Op.load 31 (Operand.tmp 107), type := 31, pos := "law.go:115", after := #[{ on := 7, ground := Ground.data }], guard := none }) (v := .slice (some ⟨gm, 0, none⟩) (NB + i + j) cm) rfl (by kernel_rfl) (by kernel_rfl) (by kernel_rfl) (by decide) (fun _ _ _ h => h) (by kernel_rfl) (by kernel_rfl) (Or.inl ⟨by rfl, fun w' hs => by go_simp⟩) (hH.out) ?_
          try simp only [Act.put, List.setIfInBounds_toArray, List.set_cons_zero, List.set_cons_succ]
          refine wpAnyZ_take (i := 9) (oi := { dst := some 109, op := Op.move (Operand.tmp 4), type := 3, pos := "law.go:115", after := #[], guard := none }) (v := .int .i64 (NB : Int)) rfl (by kernel_rfl) (by kernel_rfl) (by kernel_rfl) (by decide) (fun _ _ _ h => h) (Or.inl ⟨by rfl, fun w' _ => by go_simp⟩) (fun _ => hH.out) ?_
          try simp only [Act.put, List.setIfInBounds_toArray, List.set_cons_zero, List.set_cons_succ]
          refine wpAnyZ_take (i := 10) (oi := { dst := some 110, op := Op.move (Operand.tmp 8), type := 3, pos := "law.go:115", after := #[], guard := none }) (v := .int .i64 (j : Int)) rfl (by kernel_rfl) (by kernel_rfl) (by kernel_rfl) (by decide) (fun _ _ _ h => h) (Or.inl ⟨by rfl, fun w' _ => by go_simp⟩) (fun _ => hH.out) ?_
          try simp only [Act.put, List.setIfInBounds_toArray, List.set_cons_zero, List.set_cons_succ]
          refine wpAnyZ_take (i := 11) (oi := { dst := some 111, op := Op.binOp BinOp.add 3 (Operand.tmp 109) (Operand.tmp 110) 3, type := 3, pos := "law.go:115", after := #[{ on := 9, ground := Ground.data }, { on := 10, ground := Ground.data }], guard := none }) (v := .int .i64 ((NB : Int) + (j : Int))) rfl (by kernel_rfl) (by kernel_rfl) (by kernel_rfl) (by decide) (fun _ _ _ h => h) (Or.inl ⟨by rfl, fun w' _ => by go_simp⟩) (fun _ => hH.out) ?_
          try simp only [Act.put, List.setIfInBounds_toArray, List.set_cons_zero, List.set_cons_succ]
          refine wpAnyZ_take (i := 12) (oi := { dst := some 112, op := Op.indexAddr 31 (Operand.tmp 108) (Operand.tmp 111), type := 0, pos := "law.go:115", after := #[{ on := 8, ground := Ground.data }, { on := 11, ground := Ground.data }], guard := none }) (v := .pointer (some ⟨gm, NB + j, none⟩)) rfl (by kernel_rfl) (by kernel_rfl) (by kernel_rfl) (by decide) (fun _ _ _ h => h) (Or.inl ⟨by rfl, fun w' _ => by go_simp⟩) (fun _ => hH.out) ?_
          try simp only [Act.put, List.setIfInBounds_toArray, List.set_cons_zero, List.set_cons_succ]
          refine wpAnyZ_only (i := 13) (o := { dst := some 113, op := Op.load 5 (Operand.tmp 112), type := 5, pos := "law.go:115", after := #[{ on := 12, ground := Ground.data }], guard := none }) (by kernel_rfl) rfl (fun Kx hK => ?_)
          go_simp
          refine hK.out _ _ (fun _ => hH.out) ?_
          clear hK
          try simp only [Act.put, List.setIfInBounds_toArray, List.set_cons_zero, List.set_cons_succ]
          refine wpAnyZ_only (i := 14) (o := { dst := some 114, op := Op.buildSlice 31 1 #[(0, Operand.tmp 113)], type := 31, pos := "law.go:115", after := #[{ on := 13, ground := Ground.data }], guard := none }) (by kernel_rfl) rfl (fun Kx hK => ?_)
          go_simp
          have hC : Hid ((w4.alloc (.cells #[.int .u8 (mk : Int)] 5)).cell? ⟨Q, 4, none⟩ = some (.slice (some ⟨gm, 0, none⟩) (NB + i + j) cm)) := ((below_alloc w4 _).cell (p := ⟨Q, 4, none⟩) (World.block_lt_of_cell? _ _ hH.out)).trans hH.out
          refine hK.out _ _ (fun _ => hC.out) ?_
          clear hK
          try simp only [Act.put, List.setIfInBounds_toArray, List.set_cons_zero, List.set_cons_succ]
          refine wpAnyZ_only (i := 15) (o := { dst := some 115, op := Op.call { callee := Callee.builtin Builtin.append, args := #[Operand.tmp 104, Operand.tmp 114], argTypes := #[31, 31] }, type := 31, pos := "law.go:115", after := #[{ on := 4, ground := Ground.data }, { on := 14, ground := Ground.data }], guard := none }) (by kernel_rfl) rfl (fun Kx hK => ?_)
          have own4 : RowV 5 0 w4 (.slice (some ⟨gm, 0, none⟩) (NB + i + j) cm) (VV 4) := by have := A8.out.bk.row 4 (by omega); rw [HV4.out.1] at this; exact this
          refine op_pushR rfl (.tmp 104) (.tmp 114) 31 rfl 5 iB (.int .u8 0) 1 underB hiB hb0 hb1 hb2 rfl 0 _ (VV 4) (.int .u8 (mk : Int)) rfl rfl own4 (Nat.zero_le _) rfl (by rw [HV4.out.2]; unfold maxLen; omega) (by rw [HV4.out.2]; omega) ?_
          intro a9 n9 c9 w9 r9 g9 hat9
          obtain ⟨p1, p3, p4⟩ := A8.out.push HX.out (k := 4) (nv := .slice a9 n9 c9) (u := .int .u8 (mk : Int)) (B2' := mks NB i ++ mks NB (j + 1)) (.inr ⟨rfl, rfl, by rw [mks_succ, HMQ.out, List.append_assoc]; rfl⟩) r9 (by rw [HV4.out.1]; exact g9) (by rw [HV4.out.1]; exact hat9)
          rw [HV4.out.1] at p3
          clear own4 r9 g9 hat9
          refine hK.out _ _ (fun _ => p3) ?_
          clear hK
          try simp only [Act.put, List.setIfInBounds_toArray, List.set_cons_zero, List.set_cons_succ]
          refine wpAnyZ_take (i := 16) (oi := { dst := some 116, op := Op.nilCheck (Operand.tmp 100), type := 0, pos := "law.go:115", after := #[{ on := 0, ground := Ground.data }, { on := 0, ground := Ground.phase }, { on := 1, ground := Ground.phase }, { on := 2, ground := Ground.phase }, { on := 3, ground := Ground.phase }, { on := 4, ground := Ground.phase }, { on := 5, ground := Ground.phase }, { on := 6, ground := Ground.phase }, { on := 7, ground := Ground.phase }, { on := 8, ground := Ground.phase }, { on := 9, ground := Ground.phase }, { on := 10, ground := Ground.phase }, { on := 11, ground := Ground.phase }, { on := 12, ground := Ground.phase }, { on := 13, ground := Ground.phase }, { on := 14, ground := Ground.phase }, { on := 15, ground := Ground.phase }], guard := none }) (v := .pointer (some ⟨Q, 0, none⟩)) rfl (by kernel_rfl) (by kernel_rfl) (by kernel_rfl) (by decide) (fun _ _ _ h => h) (Or.inl ⟨by rfl, fun w' _ => by go_simp⟩) (fun _ => p3) ?_
          try simp only [Act.put, List.setIfInBounds_toArray, List.set_cons_zero, List.set_cons_succ]
          refine wpAnyZ_take (i := 17) (oi := { dst := some 117, op := Op.fieldAddr 43 (Operand.tmp 116) 4, type := 0, pos := "law.go:115", after := #[{ on := 16, ground := Ground.data }, { on := 0, ground := Ground.phase }, { on := 1, ground := Ground.phase }, { on := 2, ground := Ground.phase }, { on := 3, ground := Ground.phase }, { on := 4, ground := Ground.phase }, { on := 5, ground := Ground.phase }, { on := 6, ground := Ground.phase }, { on := 7, ground := Ground.phase }, { on := 8, ground := Ground.phase }, { on := 9, ground := Ground.phase }, { on := 10, ground := Ground.phase }, { on := 11, ground := Ground.phase }, { on := 12, ground := Ground.phase }, { on := 13, ground := Ground.phase }, { on := 14, ground := Ground.phase }, { on := 15, ground := Ground.phase }], guard := none }) (v := .pointer (some ⟨Q, 4, none⟩)) rfl (by kernel_rfl) (by kernel_rfl) (by kernel_rfl) (by decide) (fun _ _ _ h => h) (Or.inl ⟨by rfl, fun w' _ => by go_simp⟩) (fun _ => p3) ?_
          try simp only [Act.put, List.setIfInBounds_toArray, List.set_cons_zero, List.set_cons_succ]
          refine wpAnyZ_only (i := 18) (o := { dst := none, op := Op.store 31 (Operand.tmp 117) (Operand.tmp 115), type := 0, pos := "law.go:115", after := #[{ on := 17, ground := Ground.data }, { on := 15, ground := Ground.data }, { on := 15, ground := Ground.chain }, { on := 0, ground := Ground.phase }, { on := 1, ground := Ground.phase }, { on := 2, ground := Ground.phase }, { on := 3, ground := Ground.phase }, { on := 4, ground := Ground.phase }, { on := 5, ground := Ground.phase }, { on := 6, ground := Ground.phase }, { on := 7, ground := Ground.phase }, { on := 8, ground := Ground.phase }, { on := 9, ground := Ground.phase }, { on := 10, ground := Ground.phase }, { on := 11, ground := Ground.phase }, { on := 12, ground := Ground.phase }, { on := 13, ground := Ground.phase }, { on := 14, ground := Ground.phase }, { on := 15, ground := Ground.phase }], guard := none }) (by kernel_rfl) rfl (fun Kx hK => ?_)
          have lt7 := World.block_lt_of_cell? _ _ p3
          go_simp
          refine hK.out _ _ (fun h => nomatch (show true = false from h)) ?_
          clear hK
          try simp only [Act.put, List.setIfInBounds_toArray, List.set_cons_zero, List.set_cons_succ]
          refine wpAnyZ_done (by kernel_rfl) ?_ _
          have A9 : Hid _ := p1
          clear hC hH p3 p4 HV4 A8 p1 cm4
          clear hw1 hw2 hw3 hw4
          have A9 : Hid (∃ v' V' W', AC Q base NB W M X V ys w (.slice (some ⟨g, 0, none⟩) i c) (List.replicate j (zA NS) ++ ys.drop j) (PP NB ys i 0) (j + 1) (L2 ++ [.slice (some ⟨gn, 0, none⟩) y.bn cp]) (ys.map sv ++ (L2 ++ [.slice (some ⟨gn, 0, none⟩) y.bn cp])) (mks NB i ++ mks NB (j + 1)) v' V' W' (w9.setCell ⟨Q, 4, none⟩ (.slice a9 n9 c9))) := ⟨_, _, _, A9.out⟩
          generalize w9.setCell ⟨Q, 4, none⟩ (.slice a9 n9 c9) = wA at *
          obtain ⟨vx, Vx, Wx, acx⟩ := A9.out
          have q2 := acx.bk.cell (k := 2) (by omega)
          obtain ⟨a2, c2, e2, -, -⟩ := (RowV.rd (acx.bk.row 2 (by omega))).len
          rw [e2, acx.v2, HN.out.2.2.2.2.1] at q2
          have ltQ := acx.bk.lt Q acx.bk.wq
          have cz0 : wA.cell? ⟨g, j * 3, none⟩ = some (.int .i64 y.id) := (acx.row.cell acL3 (rep_at NS HYI.out) 0 _ rfl).2
          have cz1 := (acx.row.cell acL3 (rep_at NS HYI.out) 1 _ rfl).2
          have cz2 := (acx.row.cell acL3 (rep_at NS HYI.out) 2 _ rfl).2
          have ltg := World.block_lt_of_cell? _ _ cz0
          have fzg : ∀ q, wA.frozen? ⟨g, q, none⟩ = false := fun q => by
            obtain ⟨_, cur, hcur⟩ := own_heap acx.row (g := g) rfl
            simp [World.frozen?, hcur]
          have t1 : (wA.setCell ⟨g, j * 3, none⟩ (.int .i64 (-7 - (NS : Int)))).cell? ⟨g, j * 3 + 1, none⟩ = some (.int .i64 y.tk) := (World.cell?_setCell_other _ _ _ _ (by simp)).trans cz1
          have t2 : ((wA.setCell ⟨g, j * 3, none⟩ (.int .i64 (-7 - (NS : Int)))).setCell ⟨g, j * 3 + 1, none⟩ (.int .i64 0)).cell? ⟨g, j * 3 + 2, none⟩ = some (.slice y.ba y.bn y.bc) := (World.cell?_setCell_other _ _ _ _ (by simp)).trans ((World.cell?_setCell_other _ _ _ _ (by simp)).trans cz2)
          have IT := acx.item HX.out (zA NS) (i := j) (by rw [HZL.out]; omega)
          rw [rep_item NS ys (by rw [HNL.out]; omega)] at IT
          have ITH : Hid (∃ v' V' W' L2, L2.length = j + 1 ∧ AC Q base NB W M X V ys w (.slice (some ⟨g, 0, none⟩) i c) (List.replicate (j + 1) (zA NS) ++ ys.drop (j + 1)) (PP NB ys i 0) (j + 1) L2 (ys.map sv ++ L2) (mks NB i ++ mks NB (j + 1)) v' V' W' (((wA.setCell ⟨g, j * 3, none⟩ (.int .i64 (-7 - (NS : Int)))).setCell ⟨g, j * 3 + 1, none⟩ (.int .i64 0)).setCell ⟨g, j * 3 + 2, none⟩ (.slice none 0 0))) := ⟨_, _, _, _, by rw [List.length_append, HL2.out]; rfl, IT⟩
          clear IT acx A9 e2
          go_wp2_with fail
          go_roundw
          case rel => exact ⟨j + 1, by go_num, by omega, ITH⟩
          case measure => simp [intOf] <;> omega
        · obtain rfl : j = i := by omega
          obtain ⟨v', V', W', L2, hL2, hac⟩ := HA.out
          have HL2 : Hid (L2.length = j) := hL2
          have e0 : List.replicate j (zA NS) ++ ys.drop j = List.replicate j (zA NS) := by rw [List.drop_of_length_le (by rw [HNL.out]; exact Nat.le_refl _), List.append_nil]
          rw [e0] at hac
          have HAC : Hid (AC Q base NB W M X V ys w (.slice a j c) (List.replicate j (zA NS)) (PP NB ys j 0) j L2 (ys.map sv ++ L2) (mks NB j ++ mks NB j) v' V' W' wr) := hac
          have q2 := hac.bk.cell (k := 2) (by omega)
          have own2 : RowV 30 0 wr (v' 2) (V' 2) := hac.bk.row 2 (by omega)
          have l2 : (V' 2).length = NS := by rw [hac.v2, HN.out.2.2.2.2.1]
          have ltQ := hac.bk.lt Q hac.bk.wq
          obtain ⟨vl, hvl⟩ : ∃ vl, v' 2 = vl := ⟨_, rfl⟩
          have HVL : Hid (v' 2 = vl) := hvl
          rw [hvl] at q2 own2
          rw [RowV, l2] at own2
          have PU : Hid (∀ (g2 cap2 : Nat) (w2 : World), w2.ownsRow 0 30 1 (.slice (some ⟨g2, 0, none⟩) (NS + 1) cap2) (NS + 1) (V' 2 ++ [.slice a j c]) → wr.grownBy w2 vl.ownBlock → (vl.ownBlock = some g2 ∨ wr.heap.size ≤ g2) →
              BkP Q (N + 2 * ys.length + 1) W M X w (w2.setCell ⟨Q, 2, none⟩ (.slice (some ⟨g2, 0, none⟩) (NS + 1) cap2)) ∧ w2.cell? ⟨Q, 2, none⟩ = some vl ∧ w2.frozen? ⟨Q, 2, none⟩ = false) := fun g2 cap2 w2 r2 gr2 hh => by
            have hat : ∀ q, (Value.slice (some ⟨g2, 0, none⟩) (NS + 1) cap2).ownBlock = some q → (v' 2).ownBlock = some q ∨ wr.heap.size ≤ q := fun q e => by
              have e3 : g2 = q := by simpa [Value.ownBlock] using e
              rw [HVL.out, ← e3]; exact hh
            obtain ⟨p1, p2, p3, p4⟩ := HAC.out.bk.push (k := 2) (by omega) (v' := .slice (some ⟨g2, 0, none⟩) (NS + 1) cap2) (x := .slice a j c) (by show RowV 30 0 _ _ _; rw [RowV, List.length_append, l2]; exact r2) (by rw [HVL.out]; exact gr2) hat
            rw [HVL.out] at p3
            refine ⟨?_, p3, p4⟩
            have sz := HAC.out.kp.size
            have ltX : ∀ q, X q → q < wr.heap.size := fun q hq => Nat.lt_of_lt_of_le (HX.out.lt q hq) sz
            have nw : ∀ q, q < wr.heap.size → ¬ W' q → ¬ (W' q ∨ (Value.slice (some ⟨g2, 0, none⟩) (NS + 1) cap2).ownBlock = some q) := fun q lt hn z => by
              rcases z with z | z
              · exact hn z
              · rcases hat q z with y | y
                · exact hn (HAC.out.bk.wv 2 (by omega) q y).1
                · omega
            have eV : ∀ k, k ≠ 2 → upd V' 2 (V' 2 ++ [.slice a j c]) k = V' k := fun k hk => upd_ne _ _ hk
            have C9 := HAC.out.ct.kp p2 (fun q hq => HAC.out.wx q (.inr hq))
            have CC : BkC (fun q => M q ∨ X q ∨ ∃ (i : Nat) (u : Value), L2[i]? = some u ∧ u.ownBlock = some q) (upd V' 2 (V' 2 ++ [.slice a j c])) (w2.setCell ⟨Q, 2, none⟩ (.slice (some ⟨g2, 0, none⟩) (NS + 1) cap2)) := by
              refine C9.acc (ys := ys) (L2 := L2) (lv := .slice a j c) (NB := NB) (n := j) HNL.out HL2.out (by rw [eV 0 (by omega)]; exact HAC.out.v0) (by rw [eV 1 (by omega)]; exact HAC.out.v1) (by rw [upd_same, HAC.out.v2]) (by rw [eV 3 (by omega)]; exact HAC.out.v3) (by rw [eV 4 (by omega)]; exact HAC.out.v4) ⟨j, ?_⟩ (fun i y hy => ?_) (fun i u hu => ?_) (fun q hq => .inl hq) (fun q e => .inr (.inl (HX.out.xl q e))) (fun i y hy q e => .inr (.inl (HX.out.xb i y hy q e))) (fun i u hu q e => .inr (.inr ⟨i, u, hu, e⟩)) (fun q hq => ?_)
              · rw [HN.out.2.2.2.2.1]
                exact own_mono (own_kp HAC.out.row p2 (fun q e => HAC.out.wx q (.inl (HX.out.xl q e)))) (Nat.zero_le _)
              · exact (HAC.out.kd i y (by have := (List.getElem?_eq_some_iff.1 hy).1; rw [HNL.out] at this; exact this) hy).kp p2 (fun q e => HAC.out.wx q (.inl (HX.out.xb i y hy q e)))
              · exact (HAC.out.k2 i u hu).1.kp p2 (fun q e => ((HAC.out.k2 i u hu).2.2 q e).2.1)
              · rcases hq with hq | hq | ⟨i, u, hu, e⟩
                · exact C9.lt q hq
                · exact Nat.lt_of_lt_of_le (ltX q hq) p2.size
                · exact Nat.lt_of_lt_of_le ((HAC.out.k2 i u hu).2.2 q e).1 p2.size
            refine ⟨⟨_, _, ⟨⟨_, _, p1, CC, fun k hk => ?_⟩, fun q hq => ?_⟩, fun q hq => ?_, fun q hq => ?_⟩, HAC.out.kp.trans p2 (fun q lt hq => ?_)⟩
            · by_cases e : k = 2
              · subst e
                rw [upd_same, List.length_append, l2]
                have := HN.out.2.2.1 2 (by omega)
                rw [HN.out.2.2.2.2.1] at this
                simp; omega
              · rw [eV k e]
                have b0 := HN.out.2.2.1 k hk
                match k, hk, e with
                | 0, _, _ => rw [HAC.out.v0]; omega
                | 1, _, _ => rw [HAC.out.v1]; omega
                | 3, _, _ => rw [HAC.out.v3, List.length_append, List.length_append, List.length_map, HL2.out, HNL.out]; omega
                | 4, _, _ => rw [HAC.out.v4, List.length_append, List.length_append, mks_len, HNL.out]; omega
            · rcases hq with hq | hq | ⟨i, u, hu, e⟩
              · exact nw q (HAC.out.ct.lt q hq) (HAC.out.wx q (.inr hq))
              · exact nw q (ltX q hq) (HAC.out.wx q (.inl hq))
              · exact nw q ((HAC.out.k2 i u hu).2.2 q e).1 ((HAC.out.k2 i u hu).2.2 q e).2.1
            · rcases hq with hq | hq
              · exact HAC.out.wn q hq
              · rcases hat q hq with y | y
                · exact HAC.out.wn q (HAC.out.bk.wv 2 (by omega) q y).1
                · exact .inr (by omega)
            · rcases hq with hq | hq | ⟨i, u, hu, e⟩
              · exact .inl hq
              · exact .inr (.inl hq)
              · rcases ((HAC.out.k2 i u hu).2.2 q e).2.2 with ⟨y, hy, ey⟩ | z
                · exact .inr (.inl (HX.out.xb i y hy q ey))
                · exact .inr (.inr z)
            · rcases HAC.out.wn q hq with z | z
              · exact .inl z
              · omega
          have l2a : NS + 1 ≤ maxLen := by unfold maxLen; omega
          have l2b : (NS + 1) * 24 ≤ 140737488355328 := by omega
          clear hac HA hL2 e0 hvl l2
          go_wp2_with (at_builtin; refine wpList_pushR rfl (.tmp 132) (.tmp 134) 40 rfl 30 iSA (.slice none 0 0) 1 24 Try.underlying40 hiSA hsa0 hsa1 hsa2 rfl (by decide) 0 vl NS (V' 2) [.slice a j c] rfl (fun u hu => by simp at hu; subst hu; rfl) rfl own2 (Nat.zero_le _) rfl l2a l2b ?_; intro g2 cap2 w2 r2 gr2 hat2; obtain ⟨P1, P3, P4⟩ := PU.out g2 cap2 w2 r2 gr2 hat2)
          have P1H := (show Hid _ from P1)
          clear P1 P3 P4 PU r2 gr2 hat2 own2 q2 HAC
          go_wp2_with fail
          go_end0
          exact ⟨rfl, P1H.out⟩
end Go.Proofs.Ytcnhcdlbippjoaa
