/-
  Ours: the walk of LedgerAddsUp.
-/
import Derived.Test.YtcigbghbiapohaaLedTotal
import Derived.Test.YtcigbghbiapohaaLedBkX
import Derived.Test.YtcigbghbiapohaaLedSameP
import Derived.Test.YtcigbghbiapohaaLedWhole
import Derived.Test.YtcigbghbiapohaaLedAddM
import Derived.Test.YtcigbghbiapohaaWatKB
import Derived.Deep.CutRange
import Derived.Deep.RegionHeld
import Derived.BigRegion
namespace Go.Proofs.Ytcigbghbiapohaa
open Go.RowKit LedM

/-- A load by the row behind a guard that wants it. -/
theorem step_loadG {P : Program} {ops : Array Oper} {rest : List Oper} {op : Oper} {a : Act} {w : World} {Q : Exit → Act → World → Prop} (hw : Region.wanted op (yielded ops a.tmps) = true) (ty : TypeId) (x : Operand) (ho : op.op = .load ty x)
    (G o : Nat) (hx : a.eval x = .pointer (some ⟨G, o, none⟩)) (cs : List Value) (d : TypeDesc) (hc : w.rangeAt G o cs)
    (hu : P.underlying ty = some d) (hd : d.isRow = true) (hi : (P.info? ty).map (·.size) = some cs.length)
    (h : wpList P ops Q rest (a.put op.dst (.agg cs.toArray)) w) : wpList P ops Q (op :: rest) a w :=
  BigFrame.wpList_want hw fun _ hK => wp_load_mid ty x ho G o hx cs d hc hu hd hi (hK _ _ h)
theorem RdBk.range {w : World} {a : Option Addr} {n c : Nat} {bs : List (List Int)} (h : RdBk w (.slice a n c) bs) : ∀ w', Below w.heap.size w w' → ∀ i, i < bs.length → ∃ g o, a = some ⟨g, o, none⟩ ∧ g < w.heap.size ∧ w'.rangeAt g (o + i * 12) (bkL (bN bs i)) := fun w' hb i hi => by
  obtain ⟨ao, cap, e, H1, H2, H⟩ := h
  injection e with e1 e2 e3
  subst e1
  obtain ⟨g, o, e, lt, r⟩ := H i hi
  exact ⟨g, o, e, lt, range_laterB r lt hb⟩

theorem RdBk.nought {w : World} {a : Option Addr} {n c k : Nat} {bs : List (List Int)} (h : RdBk w (.slice a n c) bs) (hk : n ≤ k) : RdBk w (.slice a (n - k) 0) (bs.drop k) := by
  obtain ⟨ao, cap, e, h1, h2, h3⟩ := h
  injection e with e1 e2 e3
  subst e1 e2 e3
  rw [List.drop_eq_nil_of_le hk, Nat.sub_eq_zero_of_le hk]
  exact ⟨_, _, rfl, Nat.le_refl _, fun _ => rfl, fun i hi => by simp at hi⟩
theorem RdBk.drop {w : World} {a : Option Addr} {n c k : Nat} {bs : List (List Int)} (h : RdBk w (.slice a n c) bs) (hk : k ≤ n) : RdBk w (.slice (Option.map (fun x => x.add (k * 12)) a) (n - k) (c - k)) (bs.drop k) := by
  obtain ⟨ao, cap, e, h1, h2, h3⟩ := h
  injection e with e1 e2 e3
  subst e1 e2 e3
  refine ⟨_, _, by rw [List.length_drop], by rw [List.length_drop]; omega, fun hn => ?_, fun i hi => ?_⟩
  · cases a with
    | none => have := h2 rfl; omega
    | some x => cases hn
  · rw [List.length_drop] at hi
    obtain ⟨g, o, e, lt, r⟩ := h3 (k + i) (by omega)
    refine ⟨g, o + k * 12, ?_, lt, ?_⟩
    · rw [e]
      show some (Addr.add _ _) = _
      unfold Addr.add
      split
      · rename_i h0; rw [h0]; rfl
      · rfl
    · rw [show bN (bs.drop k) i = bN bs (k + i) from by simp [bN, List.getD_eq_getElem?_getD], show o + k * 12 + i * 12 = o + (k + i) * 12 by omega]
      exact r
theorem RdBk.two (w : World) (a b : List Int) (ha : a.length = 12) : RdBk (w.alloc (.cells (bkL a ++ bkL b).toArray 25)) (.slice (some ⟨w.heap.size, 0, none⟩) 2 2) [a, b] := by
  have al := (Blk.new 25 (bkL a ++ bkL b) w).all
  refine ⟨_, _, rfl, Nat.le_refl _, (fun h => by cases h), fun i hi => ?_⟩
  have hi2 : i = 0 ∨ i = 1 := by simp at hi; omega
  rcases hi2 with rfl | rfl
  · refine ⟨_, _, rfl, by simp, fun j v hj => ?_⟩
    have hj' : j < (bkL a).length := (List.getElem?_eq_some_iff.1 hj).1
    have := al j v (by rw [List.getElem?_append_left hj']; exact hj)
    simpa using this
  · refine ⟨_, _, rfl, by simp, fun j v hj => ?_⟩
    have := al (12 + j) v (by rw [List.getElem?_append_right (by rw [bkL_len, ha]; omega), bkL_len, ha, show 12 + j - 12 = j by omega]; exact hj)
    simpa using this
theorem twelve {l : List Int} (h : l.length = 12) : ∃ a0 a1 a2 a3 a4 a5 a6 a7 a8 a9 a10 a11, l = [a0, a1, a2, a3, a4, a5, a6, a7, a8, a9, a10, a11] := by
  match l, h with
  | [a0, a1, a2, a3, a4, a5, a6, a7, a8, a9, a10, a11], _ => exact ⟨_, _, _, _, _, _, _, _, _, _, _, _, rfl⟩

set_option maxRecDepth 20000 in
set_option maxHeartbeats 200000000 in
theorem addsUp_any (bs : List (List Int)) (at' : Int) (v : Value) (w : World) (hr : RdBk w v bs) (ok : ∀ b ∈ bs, BkOk b) :
    Calls Try.prog 3 #[v, .int .i64 at'] w fun e w' => e = .returned (.bool true) ∧ Below w.heap.size w w' := by
  have TO : Hid (∀ cs v' w', RdBk w' v' cs → (∀ b ∈ cs, BkOk b) → cs.length ≤ 1000 → Calls Try.prog 4 #[v'] w' fun e w2 => e = .returned (.tuple #[.agg (bkL (bookL (sumB cs))).toArray, .bool (fitsL (sumB cs))]) ∧ Below w'.heap.size w' w2) := fun cs v' w' h o l => total_at cs v' w' h o (by omega)
  have T0 : Hid (Calls Try.prog 4 #[.slice none 0 0] w fun e w2 => e = .returned (.tuple #[.agg (bkL zeroL).toArray, .bool true]) ∧ Below w.heap.size w w2) := by
    have := TO.out [] (.slice none 0 0) w ⟨none, 0, rfl, Nat.le_refl _, fun _ => rfl, fun i hi => by simp at hi⟩ (fun b hb => by cases hb) (by simp)
    rwa [sumB_nil, show fitsL zeroL = true by decide +kernel, show bookL zeroL = zeroL by decide +kernel] at this
  have SM : Hid (∀ l m w', l.length = 12 → m.length = 12 → Calls Try.prog 5 #[.agg (bkL l).toArray, .agg (bkL m).toArray] w' fun e w2 => e = .returned (.bool (decide (l = m))) ∧ Below w'.heap.size w' w2) := fun l m w' h1 h2 => same_at l m w' h1 h2
  have SM0 : Hid (∀ w', Calls Try.prog 5 #[.agg (bkL zeroL).toArray, .agg #[.int .i64 0, .int .i64 0, .int .i64 0, .int .i64 0, .int .i64 0, .int .i64 0, .int .i64 0, .int .i64 0, .int .i64 0, .int .i64 0, .int .i64 0, .int .i64 0]] w' fun e w2 => e = .returned (.bool true) ∧ Below w'.heap.size w' w2) := fun w' => by have := SM.out zeroL zeroL w' rfl rfl; rwa [decide_eq_true rfl] at this
  have PL : Hid (∀ s k hh ll x (w' : World), WhIs s k hh ll → k ≤ 12 → i64 x → Calls Try.prog 6 #[.agg #[.int .i64 hh, .int .i64 ll], .int .i64 x] w' fun e w2 => e = .returned (.agg #[.int .i64 (whH hh x), .int .i64 (whL ll x)]) ∧ Below w'.heap.size w' w2) := fun s k hh ll x w' h1 h2 h3 => plus_at s k hh ll x w' h1 (by omega) h3
  have NO : Hid (∀ s k hh ll (w' : World), WhIs s k hh ll → k ≤ 12 → Calls Try.prog 7 #[.agg #[.int .i64 hh, .int .i64 ll]] w' fun e w2 => e = .returned (.bool (decide (s = 0))) ∧ Below w'.heap.size w' w2) := fun s k hh ll w' h1 h2 => nothing_at s k hh ll w' h1 (by omega)
  have h' := hr
  obtain ⟨ao, cap, rfl, hcap, hno, -⟩ := hr
  have CE : Hid (∀ w', Below w.heap.size w w' → ∀ i, i < bs.length → ∃ g o, ao = some ⟨g, o, none⟩ ∧ g < w.heap.size ∧ w'.rangeAt g (o + i * 12) (bkL (bN bs i))) := h'.range
  have RD : Hid (∀ w', Below w.heap.size w w' → RdBk w' (.slice ao bs.length cap) bs) := fun w' hb => h'.later hb
  have OKB : Hid (∀ i, i < bs.length → BkOk (bN bs i)) := fun i hi => by rw [bN_at hi]; exact ok _ (List.getElem_mem hi)
  have OKA : Hid (∀ b ∈ bs, BkOk b) := ok
  obtain ⟨n, hn⟩ : ∃ n, bs.length = n := ⟨_, rfl⟩
  have HN : Hid (bs.length = n) := hn
  rw [hn] at hcap CE RD OKB ⊢
  clear h' hn ok
  go_enter Try.func3, Try.ntmps3
  go_wp2_with fail
  refine T0.out.mono ?_
  rintro e w1 ⟨rfl, b1⟩
  have B1 : Hid (Below w.heap.size w w1) := b1
  have Z1 : Hid (Blk w1.heap.size 25 (bkL zeroL) (w1.alloc (.cells (bkL zeroL).toArray 25))) := Blk.new 25 (bkL zeroL) w1
  clear b1 T0
  go_wp2_with (first
    | (refine step_store rfl 25 _ _ rfl w1.heap.size 0 25 (bkL zeroL) (bkL zeroL) rfl rfl Z1.out (Nat.le_refl _) (infoBl rfl) (bkL_one _) ?_; intro w2 nb2 g2; have K2 : Hid (Blk w1.heap.size 25 (bkL zeroL) w2 ∧ Below w.heap.size w w2) := ⟨by rw [store_all rfl] at nb2; exact nb2, below_trans B1.out ((below_alloc w1 _).grown g2 (below_alloc w1 _).size (fun k e => by cases e; exact Nat.le_refl _))⟩; clear nb2 g2 Z1 B1)
    | (refine step_loadG rfl 25 _ rfl w1.heap.size 0 rfl (bkL zeroL) _ K2.out.1.all Try.underlying25 rfl (infoBl rfl) ?_))
  refine (SM0.out _).mono ?_
  rintro e w3 ⟨rfl, b3⟩
  have B3 : Hid (Below w.heap.size w w3) := below_trans K2.out.2 b3
  clear b3 K2 SM0
  by_cases c1 : 300 < n
  · have q : (300 : Int) < (n : Int) := by omega
    go_wp2_with fail
    go_ret
    exact ⟨rfl, B3.out⟩
  have q1 : ¬ (300 : Int) < (n : Int) := by omega
  by_cases c2 : at' < 0
  · go_wp2_with fail
    go_ret
    exact ⟨rfl, B3.out⟩
  by_cases c3 : (n : Int) < at'
  · go_wp2_with fail
    go_ret
    exact ⟨rfl, B3.out⟩
  obtain ⟨m, hm⟩ : ∃ m : Nat, at' = (m : Int) := ⟨at'.toNat, by omega⟩
  subst hm
  have hmn : m ≤ n := by omega
  have d1 : decide ((300 : Int) < (n : Int)) = false := decide_eq_false q1
  have d2 : decide ((m : Int) < 0) = false := decide_eq_false c2
  have d3 : decide ((n : Int) < (m : Int)) = false := decide_eq_false c3
  have d4 : decide (n < m) = false := decide_eq_false (by omega)
  go_wp2_with fail
  go_loopw [7, 8, 9, 10, 11, 12] (fun ve vi _ _ _ _ wr => ∃ (i : Nat) (ev : Bool), vi = .int .i64 (i : Int) ∧ i ≤ n ∧ ve = .bool ev ∧ Hid (ev = true → ∀ j, j < i → net (bN bs j) 12 = 0) ∧ Hid (Below w.heap.size w wr)) (fun _ vi _ _ _ _ _ => n - (intOf vi).toNat)
  case atStart => exact ⟨0, true, rfl, by omega, rfl, (fun _ j hj => by omega), B3.out⟩
  case round =>
    obtain ⟨i, ev, rfl, hi, rfl, EV, BW⟩ := hrel
    by_cases hlt : (i : Int) < (n : Int)
    · obtain ⟨g, o, rfl, glt, rg⟩ := CE.out wr BW.out i (by omega)
      have RG : Hid (∀ w', Below w.heap.size w w' → w'.rangeAt g (o + i * 12) (bkL (bN bs i))) := fun w' hb => by
        obtain ⟨g', o', e', _, r'⟩ := CE.out w' hb i (by omega)
        cases e'
        exact r'
      have BL : Hid (BkOk (bN bs i)) := OKB.out i (by omega)
      have EVN : Hid (ev = true → net (bN bs i) 12 = 0 → ∀ j, j < i + 1 → net (bN bs j) 12 = 0) := fun he hz j hj => by
        by_cases e : j = i
        · subst e; exact hz
        · exact EV.out he j (by omega)
      clear rg CE OKB EV
      obtain ⟨b, hb⟩ : ∃ b, bN bs i = b := ⟨_, rfl⟩
      rw [hb] at RG BL EVN
      clear hb
      have TB : Hid (∀ c' w', Below w.heap.size w w' → 1 ≤ c' → Calls Try.prog 4 #[.slice (some ⟨g, o + i * 12, none⟩) 1 c'] w' fun e w2 => e = .returned (.tuple #[.agg (bkL b).toArray, .bool true]) ∧ Below w'.heap.size w' w2) := fun c' w' hb hc => by
        have := TO.out [b] (.slice (some ⟨g, o + i * 12, none⟩) 1 c') w' ⟨_, c', rfl, hc, (fun h => by cases h), fun j hj => by
          obtain rfl : j = 0 := by simpa using hj
          exact ⟨g, o + i * 12, rfl, Nat.lt_of_lt_of_le glt hb.size, by simpa [bN] using RG.out w' hb⟩⟩ (fun x hx => by simp at hx; subst hx; exact BL.out) (by simp)
        rwa [sumB_one b BL.out.1, fits_ok BL.out, bookL_fits (fits_ok BL.out)] at this
      have SMB : Hid (∀ w', Calls Try.prog 5 #[.agg (bkL b).toArray, .agg (bkL b).toArray] w' fun e w2 => e = .returned (.bool true) ∧ Below w'.heap.size w' w2) := fun w' => by have := SM.out b b w' BL.out.1 BL.out.1; rwa [decide_eq_true rfl] at this
      have hci : (i : Int) + 1 ≤ (cap : Int) := by omega
      go_wp2_with fail
      refine (TB.out _ _ BW.out (by omega)).mono ?_
      rintro e w1 ⟨rfl, b1⟩
      have B1 : Hid (Below w.heap.size w w1) := below_trans BW.out b1
      have Z1 : Hid (Blk w1.heap.size 25 (bkL zeroL) (w1.alloc (.cells (bkL zeroL).toArray 25))) := Blk.new 25 (bkL zeroL) w1
      clear b1 TB BW
      go_upto_region 11 with (refine step_store rfl 25 _ _ rfl w1.heap.size 0 25 (bkL zeroL) (bkL b) rfl rfl Z1.out (by rw [bkL_len, BL.out.1]; exact Nat.le_refl _) (infoBl BL.out.1) (bkL_one _) ?_; intro w2 nb2 g2)
      have K2 : Hid (Blk w1.heap.size 25 (bkL b) w2 ∧ (∀ w', Below w2.heap.size w2 w' → w'.rangeAt g (o + i * 12) (bkL b)) ∧ Below w.heap.size w w2) := by
        have bb : Below w.heap.size w w2 := below_trans B1.out ((below_alloc w1 _).grown g2 (below_alloc w1 _).size (fun k e => by cases e; exact Nat.le_refl _))
        exact ⟨by rw [store_all (by rw [bkL_len, bkL_len, BL.out.1]; rfl)] at nb2; exact nb2, fun w' hb => RG.out w' (below_trans bb hb), bb⟩
      clear nb2 g2 Z1 B1
      refine wp_region_held_drew (S := fun w' => Below w2.heap.size w2 w') (by kernel_rfl) (Below.drew (Below.refl _ _)) (fun hH => ?_)
      refine wpAnyH_take (i := 0) (oi := { dst := some 63, op := Op.move (Operand.tmp 10), type := 4, pos := "outright.go:165", after := #[], guard := none }) (v := .bool true) rfl (by kernel_rfl) (by kernel_rfl) (by kernel_rfl) (fun _ _ _ h => h) (Or.inl ⟨by rfl, fun w' hs => by go_simp⟩) hH ?_
      simp only [Act.put, List.setIfInBounds_toArray, List.set_cons_zero, List.set_cons_succ]
      refine wpAnyH_take (i := 1) (oi := { dst := some 64, op := Op.unOp UnOp.not 4 (Operand.tmp 63), type := 4, pos := "outright.go:165", after := #[{ on := 0, ground := Ground.data }], guard := none }) (v := .bool false) rfl (by kernel_rfl) (by kernel_rfl) (by kernel_rfl) (fun _ _ _ h => h) (Or.inl ⟨by rfl, fun w' hs => by go_simp⟩) hH ?_
      simp only [Act.put, List.setIfInBounds_toArray, List.set_cons_zero, List.set_cons_succ]
      refine wpAnyH_take (i := 2) (oi := { dst := some 65, op := Op.move (Operand.tmp 64), type := 4, pos := "outright.go:165", after := #[{ on := 1, ground := Ground.data }], guard := none }) (v := .bool false) rfl (by kernel_rfl) (by kernel_rfl) (by kernel_rfl) (fun _ _ _ h => h) (Or.inl ⟨by rfl, fun w' hs => by go_simp⟩) hH ?_
      simp only [Act.put, List.setIfInBounds_toArray, List.set_cons_zero, List.set_cons_succ]
      refine' wpAnyH_take (i := 3) (oi := { dst := some 66, op := Op.load 25 (Operand.tmp 9), type := 25, pos := "outright.go:165", after := #[{ on := 2, ground := Ground.guard }], guard := some (2, false) }) (v := _) rfl (by kernel_rfl) (by kernel_rfl) (by kernel_rfl) (fun _ _ _ h => h) (yieldsIf_load_mid (by rfl) _ _ rfl _ _ rfl (bkL b) _ (fun w' h => (K2.out.1.below h).all) Try.underlying25 rfl (infoBl BL.out.1)) hH ?_
      simp only [Act.put, List.setIfInBounds_toArray, List.set_cons_zero, List.set_cons_succ]
      refine wpAnyH_take (i := 4) (oi := { dst := some 67, op := Op.move (Operand.tmp 0), type := 22, pos := "outright.go:165", after := #[{ on := 2, ground := Ground.guard }], guard := some (2, false) }) (v := .slice (some ⟨g, o, none⟩) n cap) rfl (by kernel_rfl) (by kernel_rfl) (by kernel_rfl) (fun _ _ _ h => h) (Or.inl ⟨by rfl, fun w' hs => by go_simp⟩) hH ?_
      simp only [Act.put, List.setIfInBounds_toArray, List.set_cons_zero, List.set_cons_succ]
      refine wpAnyH_take (i := 5) (oi := { dst := some 68, op := Op.move (Operand.tmp 8), type := 3, pos := "outright.go:165", after := #[{ on := 2, ground := Ground.guard }], guard := some (2, false) }) (v := .int .i64 (i : Int)) rfl (by kernel_rfl) (by kernel_rfl) (by kernel_rfl) (fun _ _ _ h => h) (Or.inl ⟨by rfl, fun w' hs => by go_simp⟩) hH ?_
      simp only [Act.put, List.setIfInBounds_toArray, List.set_cons_zero, List.set_cons_succ]
      refine wpAnyH_take (i := 6) (oi := { dst := some 69, op := Op.indexAddr 22 (Operand.tmp 67) (Operand.tmp 68), type := 0, pos := "outright.go:165", after := #[{ on := 4, ground := Ground.data }, { on := 5, ground := Ground.data }, { on := 2, ground := Ground.guard }], guard := some (2, false) }) (v := .pointer (some ⟨g, o + i * 12, none⟩)) rfl (by kernel_rfl) (by kernel_rfl) (by kernel_rfl) (fun _ _ _ h => h) (Or.inl ⟨by rfl, fun w' hs => by go_simp⟩) hH ?_
      simp only [Act.put, List.setIfInBounds_toArray, List.set_cons_zero, List.set_cons_succ]
      refine' wpAnyH_take (i := 7) (oi := { dst := some 70, op := Op.load 25 (Operand.tmp 69), type := 25, pos := "outright.go:165", after := #[{ on := 6, ground := Ground.data }, { on := 2, ground := Ground.guard }], guard := some (2, false) }) (v := _) rfl (by kernel_rfl) (by kernel_rfl) (by kernel_rfl) (fun _ _ _ h => h) (yieldsIf_load_mid (by rfl) _ _ rfl _ _ rfl (bkL b) _ (fun w' h => K2.out.2.1 _ h) Try.underlying25 rfl (infoBl BL.out.1)) hH ?_
      simp only [Act.put, List.setIfInBounds_toArray, List.set_cons_zero, List.set_cons_succ]
      refine wpAnyH_ready (rs := [8]) (by kernel_rfl) (by simp) ?_
      refine AllReadyH.cons (o := { dst := some 71, op := Op.call { callee := Callee.value (Operand.func 5), args := #[Operand.tmp 66, Operand.tmp 70], argTypes := #[25, 25] }, type := 4, pos := "outright.go:165", after := #[{ on := 3, ground := Ground.data }, { on := 7, ground := Ground.data }, { on := 2, ground := Ground.chain }, { on := 2, ground := Ground.guard }], guard := some (2, false) }) rfl (fun K hK => ?_) AllReadyH.nil
      go_simp
      refine (SMB.out _).mono ?_
      rintro e w3 ⟨rfl, b3⟩
      refine hK.out _ _ (below_trans hH b3) (fun hH => ?_)
      refine wpAnyH_take (i := 9) (oi := { dst := some 72, op := Op.unOp UnOp.not 4 (Operand.tmp 71), type := 4, pos := "outright.go:165", after := #[{ on := 8, ground := Ground.data }, { on := 2, ground := Ground.guard }], guard := some (2, false) }) (v := .bool false) rfl (by kernel_rfl) (by kernel_rfl) (by kernel_rfl) (fun _ _ _ h => h) (Or.inl ⟨by rfl, fun w' hs => by go_simp⟩) hH ?_
      simp only [Act.put, List.setIfInBounds_toArray, List.set_cons_zero, List.set_cons_succ]
      refine wpAnyH_take (i := 10) (oi := { dst := some 73, op := Op.pick (Operand.tmp 65) (Operand.const (Value.bool true)) (Operand.tmp 72), type := 4, pos := "outright.go:165", after := #[{ on := 2, ground := Ground.data }, { on := 9, ground := Ground.data }], guard := none }) (v := .bool false) rfl (by kernel_rfl) (by kernel_rfl) (by kernel_rfl) (fun _ _ _ h => h) (Or.inl ⟨by rfl, fun w' hs => by go_simp⟩) hH ?_
      simp only [Act.put, List.setIfInBounds_toArray, List.set_cons_zero, List.set_cons_succ]
      refine wpAnyH_done (by kernel_rfl) ?_ _
      have W3 : Hid (Below w.heap.size w w3) := below_trans K2.out.2.2 hH
      clear hH hK K2

      go_wp2_with fail
      have NW : Hid (Blk w3.heap.size 30 [.int .i64 0, .int .i64 0] (w3.alloc (.cells #[.int .i64 0, .int .i64 0] 30))) := Blk.new 30 [.int .i64 0, .int .i64 0] w3
      have KW : Hid (Below w.heap.size w (w3.alloc (.cells #[.int .i64 0, .int .i64 0] 30)) ∧ w.heap.size ≤ w3.heap.size) := ⟨W3.out.alloc W3.out.size _, W3.out.size⟩
      obtain ⟨G8, HG8⟩ : ∃ G8, Hid (w3.heap.size = G8) := ⟨_, rfl⟩
      rw [HG8.out] at NW KW ⊢
      generalize w3.alloc (.cells #[.int .i64 0, .int .i64 0] 30) = w7 at *
      clear W3
      go_loopw [12] (fun vj wx => ∃ (j : Nat) (hh ll : Int), vj = .int .i64 (j : Int) ∧ j ≤ 12 ∧ Hid (WhIs (net b j) j hh ll) ∧ Blk G8 30 [.int .i64 hh, .int .i64 ll] wx ∧ Hid (Below w.heap.size w wx)) (fun vj _ => 12 - (intOf vj).toNat)
      case atStart => exact ⟨0, 0, 0, rfl, by omega, (show WhIs (net b 0) 0 0 0 from wh_zero), NW.out, KW.out.1⟩
      case round =>
        obtain ⟨j, hh, ll, rfl, hj, WI, nw, kw⟩ := hrel
        by_cases hjl : (j : Int) < 12
        · have PX : Hid (∀ w' : World, Calls Try.prog 6 #[.agg #[.int .i64 hh, .int .i64 ll], .int .i64 (b.getD j 0)] w' fun e w2 => e = .returned (.agg #[.int .i64 (whH hh (b.getD j 0)), .int .i64 (whL ll (b.getD j 0))]) ∧ Below w'.heap.size w' w2) := fun w' => PL.out _ _ _ _ _ w' WI.out hj (BL.out.2 j)
          have WN : Hid (WhIs (net b (j + 1)) (j + 1) (whH hh (b.getD j 0)) (whL ll (b.getD j 0))) := by
            have := wh_plus WI.out (BL.out.2 j)
            show WhIs _ _ _ _
            rw [net_succ]; exact this
          have SC : Hid (∀ w', Below wr.heap.size wr w' → w'.cell? ⟨G8, 0, none⟩ = some (.int .i64 hh) ∧ w'.cell? ⟨G8, 1, none⟩ = some (.int .i64 ll) ∧ w'.cell? ⟨g, o + i * 12 + j, none⟩ = some (.int .i64 (b.getD j 0)) ∧ w'.frozen? ⟨G8, 0, none⟩ = false ∧ w'.frozen? ⟨G8, 1, none⟩ = false) := fun w' hb => ⟨(nw.below hb).cell 0 _ rfl, (nw.below hb).cell 1 _ rfl, RG.out w' (below_trans kw.out hb) j _ (bkL_at (by have := BL.out.1; omega)), (nw.below hb).fz 0, (nw.below hb).fz 1⟩
          obtain ⟨c0, c1, c2, f0, f1⟩ := SC.out wr (Below.refl _ _)
          have FR : Below wr.heap.size wr wr := Below.refl _ _
          have NW2 : Hid (Blk G8 30 [.int .i64 hh, .int .i64 ll] wr) := nw
          have KW2 : Hid (Below w.heap.size w wr) := kw
          generalize whH hh (b.getD j 0) = h2 at *
          generalize whL ll (b.getD j 0) = l2 at *
          generalize b.getD j 0 = x at *
          have j0 : (0 : Int) ≤ (j : Int) := by omega
          clear nw kw PL NO SM TO
          go_upto_region 17 with fail
          go_region_with (first | (go_at_call 6; refine (PX.out _).mono ?_; rintro e wa ⟨rfl, ba⟩; have FA : Below wr.heap.size wr wa := (by first | exact below_trans FR ba | exact below_trans (below_drewN FR 1) ba); obtain ⟨i0, i1, i2, i3, i4⟩ := SC.out _ FA))
          all_goals
            have q1 := ((NW2.out.below FA).set (i := 0) (.int .i64 h2)).set (i := 1) (.int .i64 l2)
            have gr := grownBy_trans (setCell_grown wa G8 0 (.int .i64 h2)) (setCell_grown (wa.setCell ⟨G8, 0, none⟩ (.int .i64 h2)) G8 1 (.int .i64 l2))
            have q2 := below_row (below_trans KW2.out FA) gr (by have := KW.out.2; omega)
            have Q1 : Hid (Blk G8 30 [.int .i64 h2, .int .i64 l2] _) := q1
            have Q2 : Hid (Below w.heap.size w _) := q2
            clear q1 q2 gr
            go_wp2_with fail
            go_roundw
            case rel => exact ⟨j + 1, h2, l2, by go_num, by omega, WN.out, Q1.out, Q2.out⟩
            case measure => simp [intOf]; omega
        · obtain rfl : j = 12 := by omega
          have NW2 : Hid (Blk G8 30 [.int .i64 hh, .int .i64 ll] wr) := nw
          have KW2 : Hid (Below w.heap.size w wr) := kw
          have NO2 : Hid (∀ w' : World, Calls Try.prog 7 #[.agg #[.int .i64 hh, .int .i64 ll]] w' fun e w2 => e = .returned (.bool (decide (net b 12 = 0))) ∧ Below w'.heap.size w' w2) := fun w' => NO.out _ _ _ _ w' WI.out (Nat.le_refl _)
          have c0 := NW2.out.cell 0 _ rfl
          have c1 := NW2.out.cell 1 _ rfl
          clear nw kw NW KW PL NO SM TO WI hjl hj
          cases ev with
          | true =>
            go_wp2_with fail
            refine (NO2.out _).mono ?_
            rintro e w9 ⟨rfl, b9⟩
            have W9 : Hid (Below w.heap.size w w9) := below_trans KW2.out b9
            clear b9 KW2 NW2 NO2
            obtain ⟨z, hz⟩ : ∃ z, decide (net b 12 = 0) = z := ⟨_, rfl⟩
            have HZ : Hid (z = true → ∀ j, j < i + 1 → net (bN bs j) 12 = 0) := fun h => EVN.out trivial (of_decide_eq_true (hz.trans h))
            rw [hz]
            clear hz EVN
            go_wp2_with fail
            go_roundw
            case rel => exact ⟨i + 1, z, by go_num, by omega, rfl, HZ.out, W9.out⟩
            case measure => simp [intOf]; omega
          | false =>
            go_wp2_with fail
            go_roundw
            case rel => exact ⟨i + 1, false, by go_num, by omega, rfl, (fun h => by cases h), KW2.out⟩
            case measure => simp [intOf]; omega
    · obtain rfl : i = n := by omega
      have EVA : Hid (ev = true → net (sumB bs) 12 = 0) := fun h => net_sum bs (fun b hb => by
        obtain ⟨j, hj, rfl⟩ := List.getElem_of_mem hb
        have := EV.out h j (by have := HN.out; omega)
        rwa [bN_at hj] at this)
      have T1 : Hid (∀ w', Below w.heap.size w w' → Calls Try.prog 4 #[.slice ao i cap] w' fun e w2 => e = .returned (.tuple #[.agg (bkL (bookL (sumB bs))).toArray, .bool (fitsL (sumB bs))]) ∧ Below w'.heap.size w' w2) := fun w' hb => TO.out bs (.slice ao i cap) w' (RD.out w' hb) OKA.out (by have := HN.out; omega)
      have K0 : Hid (KB w [] wr) := ⟨BW.out, fun q hq => by cases hq⟩
      have LT : Hid ((bookL (sumB bs)).length = 12) := bookL_len (sumB_len _)
      obtain ⟨tb, htb⟩ : ∃ tb, bookL (sumB bs) = tb := ⟨_, rfl⟩
      obtain ⟨tf, htf⟩ : ∃ tf, fitsL (sumB bs) = tf := ⟨_, rfl⟩
      rw [htb, htf] at T1
      rw [htb] at LT
      have HTB : Hid (bookL (sumB bs) = tb) := htb
      have HTF : Hid (fitsL (sumB bs) = tf) := htf
      clear htb htf BW EV CE OKB
      go_wp2_with fail
      refine (T1.out _ K0.out.bb).mono ?_
      rintro e w1 ⟨rfl, b1⟩
      have K1 : Hid (KB w [] w1) := K0.out.call b1
      have Z1 : Hid (Blk w1.heap.size 25 (bkL zeroL) (w1.alloc (.cells (bkL zeroL).toArray 25))) := Blk.new 25 (bkL zeroL) w1
      clear b1 K0 T1
      go_wp2_with (refine step_store rfl 25 _ _ rfl w1.heap.size 0 25 (bkL zeroL) (bkL tb) rfl rfl Z1.out (by rw [bkL_len, LT.out]; exact Nat.le_refl _) (infoBl LT.out) (bkL_one _) ?_; intro w2 nb2 g2)
      have K2 : Hid (KB w [(w1.heap.size, 25, bkL tb)] w2) := K1.out.put _ (by rw [store_all (by rw [bkL_len, bkL_len, LT.out]; rfl)] at nb2; exact nb2) g2
      clear nb2 g2 Z1 K1
      have TOK : Hid (BkOk tb) := by rw [← HTB.out]; exact bookL_ok (sumB_len _)
      obtain ⟨B1, HB1⟩ : ∃ B1, Hid (w1.heap.size = B1) := ⟨_, rfl⟩
      rw [HB1.out] at K2 ⊢
      clear HB1
      have T2 : Hid (∀ w', Below w.heap.size w w' → Calls Try.prog 4 #[.slice ao m cap] w' fun e w2 => e = .returned (.tuple #[.agg (bkL (bookL (sumB (bs.take m)))).toArray, .bool (fitsL (sumB (bs.take m)))]) ∧ Below w'.heap.size w' w2) := fun w' hb => TO.out (bs.take m) (.slice ao m cap) w' ((RD.out w' hb).take hmn) (fun b hb => OKA.out b (List.mem_of_mem_take hb)) (by have := HN.out; rw [List.length_take]; omega)
      have LL : Hid ((bookL (sumB (bs.take m))).length = 12) := bookL_len (sumB_len _)
      obtain ⟨lb, hlb⟩ : ∃ lb, bookL (sumB (bs.take m)) = lb := ⟨_, rfl⟩
      obtain ⟨lf, hlf⟩ : ∃ lf, fitsL (sumB (bs.take m)) = lf := ⟨_, rfl⟩
      rw [hlb, hlf] at T2
      rw [hlb] at LL
      have HLB : Hid (bookL (sumB (bs.take m)) = lb) := hlb
      have HLF : Hid (fitsL (sumB (bs.take m)) = lf) := hlf
      clear hlb hlf
      refine (T2.out _ K2.out.bb).mono ?_
      rintro e w3 ⟨rfl, b3⟩
      have K3 : Hid (KB w [(B1, 25, bkL tb)] w3) := K2.out.call b3
      have Z3 : Hid (Blk w3.heap.size 25 (bkL zeroL) (w3.alloc (.cells (bkL zeroL).toArray 25))) := Blk.new 25 (bkL zeroL) w3
      clear b3 K2 T2
      go_wp2_with (refine step_store rfl 25 _ _ rfl w3.heap.size 0 25 (bkL zeroL) (bkL lb) rfl rfl Z3.out (by rw [bkL_len, LL.out]; exact Nat.le_refl _) (infoBl LL.out) (bkL_one _) ?_; intro w4 nb4 g4)
      · have K4 : Hid (KB w [(w3.heap.size, 25, bkL lb), (B1, 25, bkL tb)] w4) := K3.out.put _ (by rw [store_all (by rw [bkL_len, bkL_len, LL.out]; rfl)] at nb4; exact nb4) g4
        clear nb4 g4 Z3 K3
        have T3 : Hid (∀ w', Below w.heap.size w w' → Calls Try.prog 4 #[.slice ao (i - m) 0] w' fun e w2 => e = .returned (.tuple #[.agg (bkL (bookL (sumB (bs.drop m)))).toArray, .bool (fitsL (sumB (bs.drop m)))]) ∧ Below w'.heap.size w' w2) := fun w' hb => TO.out (bs.drop m) (.slice ao (i - m) 0) w' ((RD.out w' hb).nought (by omega)) (fun b hb => OKA.out b (List.mem_of_mem_drop hb)) (by have := HN.out; rw [List.length_drop]; omega)
        have LR : Hid ((bookL (sumB (bs.drop m))).length = 12) := bookL_len (sumB_len _)
        obtain ⟨rb, hrb⟩ : ∃ rb, bookL (sumB (bs.drop m)) = rb := ⟨_, rfl⟩
        obtain ⟨rf, hrf⟩ : ∃ rf, fitsL (sumB (bs.drop m)) = rf := ⟨_, rfl⟩
        rw [hrb, hrf] at T3
        rw [hrb] at LR
        have HRB : Hid (bookL (sumB (bs.drop m)) = rb) := hrb
        have HRF : Hid (fitsL (sumB (bs.drop m)) = rf) := hrf
        clear hrb hrf
        refine (T3.out _ K4.out.bb).mono ?_
        rintro e w5 ⟨rfl, b5⟩
        have K5 : Hid (KB w [(w3.heap.size, 25, bkL lb), (B1, 25, bkL tb)] w5) := K4.out.call b5
        have Z5 : Hid (Blk w5.heap.size 25 (bkL zeroL) (w5.alloc (.cells (bkL zeroL).toArray 25))) := Blk.new 25 (bkL zeroL) w5
        clear b5 K4 T3
        go_upto_region 22 with (refine step_store rfl 25 _ _ rfl w5.heap.size 0 25 (bkL zeroL) (bkL rb) rfl rfl Z5.out (by rw [bkL_len, LR.out]; exact Nat.le_refl _) (infoBl LR.out) (bkL_one _) ?_; intro w6 nb6 g6)
        have K6 : Hid (KB w [(w5.heap.size, 25, bkL rb), (w3.heap.size, 25, bkL lb), (B1, 25, bkL tb)] w6) := K5.out.put _ (by rw [store_all (by rw [bkL_len, bkL_len, LR.out]; rfl)] at nb6; exact nb6) g6
        clear nb6 g6 Z5 K5
        cases lf with
        | false =>
          go_upto_region 26 with fail
          have KT : Hid (Below w.heap.size w _ ∧ Blk B1 25 (bkL tb) _) := ⟨K6.out.bb, K6.out.at 2 rfl⟩
          clear K6
          cases tf with
          | false =>
            go_wp2_with fail
            go_ret
            exact ⟨rfl, KT.out.1⟩
          | true =>
            cases ev with
            | false =>
              go_wp2_with fail
              go_ret
              exact ⟨rfl, KT.out.1⟩
            | true =>
              have NT : Hid (net tb 12 = 0) := by
                have e := HTB.out
                rw [bookL_fits HTF.out] at e
                rw [← e]
                exact EVA.out (by first | rfl | trivial)
              clear EVA HTB HTF TO SM
              go_wp2_with fail
              obtain ⟨wq, hwq⟩ : ∃ wq, Hid (wq = w6) := ⟨_, rfl⟩
              rw [← hwq.out] at KT ⊢
              clear hwq
              have NW : Hid (Blk wq.heap.size 30 [.int .i64 0, .int .i64 0] (wq.alloc (.cells #[.int .i64 0, .int .i64 0] 30))) := Blk.new 30 [.int .i64 0, .int .i64 0] wq
              have KW : Hid (Below w.heap.size w (wq.alloc (.cells #[.int .i64 0, .int .i64 0] 30)) ∧ w.heap.size ≤ wq.heap.size ∧ Blk B1 25 (bkL tb) (wq.alloc (.cells #[.int .i64 0, .int .i64 0] 30)) ∧ B1 < wq.heap.size) := ⟨KT.out.1.alloc KT.out.1.size _, KT.out.1.size, KT.out.2.old _, KT.out.2.lt⟩
              obtain ⟨G8, HG8⟩ : ∃ G8, Hid (wq.heap.size = G8) := ⟨_, rfl⟩
              rw [HG8.out] at NW KW ⊢
              generalize wq.alloc (.cells #[.int .i64 0, .int .i64 0] 30) = w7 at *
              clear KT HG8
              go_loopw [22] (fun vj wx => ∃ (j : Nat) (hh ll : Int), vj = .int .i64 (j : Int) ∧ j ≤ 12 ∧ Hid (WhIs (net tb j) j hh ll) ∧ Blk G8 30 [.int .i64 hh, .int .i64 ll] wx ∧ Blk B1 25 (bkL tb) wx ∧ Hid (Below w.heap.size w wx)) (fun vj _ => 12 - (intOf vj).toNat)
              case atStart => exact ⟨0, 0, 0, rfl, by omega, (show WhIs (net tb 0) 0 0 0 from wh_zero), NW.out, KW.out.2.2.1, KW.out.1⟩
              case round =>
                obtain ⟨j, hh, ll, rfl, hj, WI, nw, tw, kw⟩ := hrel
                by_cases hjl : (j : Int) < 12
                · have PX : Hid (∀ w' : World, Calls Try.prog 6 #[.agg #[.int .i64 hh, .int .i64 ll], .int .i64 (tb.getD j 0)] w' fun e w2 => e = .returned (.agg #[.int .i64 (whH hh (tb.getD j 0)), .int .i64 (whL ll (tb.getD j 0))]) ∧ Below w'.heap.size w' w2) := fun w' => PL.out _ _ _ _ _ w' WI.out hj (TOK.out.2 j)
                  have WN : Hid (WhIs (net tb (j + 1)) (j + 1) (whH hh (tb.getD j 0)) (whL ll (tb.getD j 0))) := by
                    have := wh_plus WI.out (TOK.out.2 j)
                    show WhIs _ _ _ _
                    rw [net_succ]; exact this
                  have SC : Hid (∀ w', Below wr.heap.size wr w' → w'.cell? ⟨G8, 0, none⟩ = some (.int .i64 hh) ∧ w'.cell? ⟨G8, 1, none⟩ = some (.int .i64 ll) ∧ w'.cell? ⟨B1, j, none⟩ = some (.int .i64 (tb.getD j 0)) ∧ w'.frozen? ⟨G8, 0, none⟩ = false ∧ w'.frozen? ⟨G8, 1, none⟩ = false) := fun w' hb => ⟨(nw.below hb).cell 0 _ rfl, (nw.below hb).cell 1 _ rfl, (tw.below hb).cell j _ (bkL_at (by have := TOK.out.1; omega)), (nw.below hb).fz 0, (nw.below hb).fz 1⟩
                  obtain ⟨c0, c1, c2, f0, f1⟩ := SC.out wr (Below.refl _ _)
                  have FR : Below wr.heap.size wr wr := Below.refl _ _
                  have NW2 : Hid (Blk G8 30 [.int .i64 hh, .int .i64 ll] wr) := nw
                  have TW2 : Hid (Blk B1 25 (bkL tb) wr) := tw
                  have KW2 : Hid (Below w.heap.size w wr) := kw
                  generalize whH hh (tb.getD j 0) = h2 at *
                  generalize whL ll (tb.getD j 0) = l2 at *
                  generalize tb.getD j 0 = x at *
                  have j0 : (0 : Int) ≤ (j : Int) := by omega
                  clear nw kw tw PL NO
                  go_upto_region 32 with fail
                  go_region_with (first | (go_at_call 6; refine (PX.out _).mono ?_; rintro e wa ⟨rfl, ba⟩; have FA : Below wr.heap.size wr wa := (by first | exact below_trans FR ba | exact below_trans (below_drewN FR 1) ba); obtain ⟨i0, i1, i2, i3, i4⟩ := SC.out _ FA))
                  all_goals
                    have q1 := ((NW2.out.below FA).set (i := 0) (.int .i64 h2)).set (i := 1) (.int .i64 l2)
                    have gr := grownBy_trans (setCell_grown wa G8 0 (.int .i64 h2)) (setCell_grown (wa.setCell ⟨G8, 0, none⟩ (.int .i64 h2)) G8 1 (.int .i64 l2))
                    have q2 := below_row (below_trans KW2.out FA) gr (by have := KW.out.2.1; omega)
                    have q3 := (TW2.out.below FA).grown gr (fun e => by have := KW.out.2.2.2; injection e with e; omega)
                    have Q1 : Hid (Blk G8 30 [.int .i64 h2, .int .i64 l2] _) := q1
                    have Q2 : Hid (Below w.heap.size w _) := q2
                    have Q3 : Hid (Blk B1 25 (bkL tb) _) := q3
                    clear q1 q2 q3 gr
                    go_wp2_with fail
                    go_roundw
                    case rel => exact ⟨j + 1, h2, l2, by go_num, by omega, WN.out, Q1.out, Q3.out, Q2.out⟩
                    case measure => simp [intOf]; omega
                · obtain rfl : j = 12 := by omega
                  have KW2 : Hid (Below w.heap.size w wr) := kw
                  have NO2 : Hid (∀ w' : World, Calls Try.prog 7 #[.agg #[.int .i64 hh, .int .i64 ll]] w' fun e w2 => e = .returned (.bool true) ∧ Below w'.heap.size w' w2) := fun w' => by
                    have := NO.out _ _ _ _ w' WI.out (Nat.le_refl _)
                    rwa [decide_eq_true NT.out] at this
                  have c0 := nw.cell 0 _ rfl
                  have c1 := nw.cell 1 _ rfl
                  clear nw kw tw NW KW PL NO WI hjl hj
                  go_wp2_with fail
                  refine (NO2.out _).mono ?_
                  rintro e w9 ⟨rfl, b9⟩
                  have W9 : Hid (Below w.heap.size w w9) := below_trans KW2.out b9
                  clear b9 KW2
                  go_wp2_with fail
                  go_ret
                  exact ⟨rfl, W9.out⟩
        | true =>
          cases rf with
          | false =>
            go_upto_region 26 with fail
            have KT : Hid (Below w.heap.size w _ ∧ Blk B1 25 (bkL tb) _) := ⟨K6.out.bb, K6.out.at 2 rfl⟩
            clear K6
            cases tf with
            | false =>
              go_wp2_with fail
              go_ret
              exact ⟨rfl, KT.out.1⟩
            | true =>
              cases ev with
              | false =>
                go_wp2_with fail
                go_ret
                exact ⟨rfl, KT.out.1⟩
              | true =>
                have NT : Hid (net tb 12 = 0) := by
                  have e := HTB.out
                  rw [bookL_fits HTF.out] at e
                  rw [← e]
                  exact EVA.out (by first | rfl | trivial)
                clear EVA HTB HTF TO SM
                go_wp2_with fail
                obtain ⟨wq, hwq⟩ : ∃ wq, Hid (wq = w6) := ⟨_, rfl⟩
                rw [← hwq.out] at KT ⊢
                clear hwq
                have NW : Hid (Blk wq.heap.size 30 [.int .i64 0, .int .i64 0] (wq.alloc (.cells #[.int .i64 0, .int .i64 0] 30))) := Blk.new 30 [.int .i64 0, .int .i64 0] wq
                have KW : Hid (Below w.heap.size w (wq.alloc (.cells #[.int .i64 0, .int .i64 0] 30)) ∧ w.heap.size ≤ wq.heap.size ∧ Blk B1 25 (bkL tb) (wq.alloc (.cells #[.int .i64 0, .int .i64 0] 30)) ∧ B1 < wq.heap.size) := ⟨KT.out.1.alloc KT.out.1.size _, KT.out.1.size, KT.out.2.old _, KT.out.2.lt⟩
                obtain ⟨G8, HG8⟩ : ∃ G8, Hid (wq.heap.size = G8) := ⟨_, rfl⟩
                rw [HG8.out] at NW KW ⊢
                generalize wq.alloc (.cells #[.int .i64 0, .int .i64 0] 30) = w7 at *
                clear KT HG8
                go_loopw [22] (fun vj wx => ∃ (j : Nat) (hh ll : Int), vj = .int .i64 (j : Int) ∧ j ≤ 12 ∧ Hid (WhIs (net tb j) j hh ll) ∧ Blk G8 30 [.int .i64 hh, .int .i64 ll] wx ∧ Blk B1 25 (bkL tb) wx ∧ Hid (Below w.heap.size w wx)) (fun vj _ => 12 - (intOf vj).toNat)
                case atStart => exact ⟨0, 0, 0, rfl, by omega, (show WhIs (net tb 0) 0 0 0 from wh_zero), NW.out, KW.out.2.2.1, KW.out.1⟩
                case round =>
                  obtain ⟨j, hh, ll, rfl, hj, WI, nw, tw, kw⟩ := hrel
                  by_cases hjl : (j : Int) < 12
                  · have PX : Hid (∀ w' : World, Calls Try.prog 6 #[.agg #[.int .i64 hh, .int .i64 ll], .int .i64 (tb.getD j 0)] w' fun e w2 => e = .returned (.agg #[.int .i64 (whH hh (tb.getD j 0)), .int .i64 (whL ll (tb.getD j 0))]) ∧ Below w'.heap.size w' w2) := fun w' => PL.out _ _ _ _ _ w' WI.out hj (TOK.out.2 j)
                    have WN : Hid (WhIs (net tb (j + 1)) (j + 1) (whH hh (tb.getD j 0)) (whL ll (tb.getD j 0))) := by
                      have := wh_plus WI.out (TOK.out.2 j)
                      show WhIs _ _ _ _
                      rw [net_succ]; exact this
                    have SC : Hid (∀ w', Below wr.heap.size wr w' → w'.cell? ⟨G8, 0, none⟩ = some (.int .i64 hh) ∧ w'.cell? ⟨G8, 1, none⟩ = some (.int .i64 ll) ∧ w'.cell? ⟨B1, j, none⟩ = some (.int .i64 (tb.getD j 0)) ∧ w'.frozen? ⟨G8, 0, none⟩ = false ∧ w'.frozen? ⟨G8, 1, none⟩ = false) := fun w' hb => ⟨(nw.below hb).cell 0 _ rfl, (nw.below hb).cell 1 _ rfl, (tw.below hb).cell j _ (bkL_at (by have := TOK.out.1; omega)), (nw.below hb).fz 0, (nw.below hb).fz 1⟩
                    obtain ⟨c0, c1, c2, f0, f1⟩ := SC.out wr (Below.refl _ _)
                    have FR : Below wr.heap.size wr wr := Below.refl _ _
                    have NW2 : Hid (Blk G8 30 [.int .i64 hh, .int .i64 ll] wr) := nw
                    have TW2 : Hid (Blk B1 25 (bkL tb) wr) := tw
                    have KW2 : Hid (Below w.heap.size w wr) := kw
                    generalize whH hh (tb.getD j 0) = h2 at *
                    generalize whL ll (tb.getD j 0) = l2 at *
                    generalize tb.getD j 0 = x at *
                    have j0 : (0 : Int) ≤ (j : Int) := by omega
                    clear nw kw tw PL NO
                    go_upto_region 32 with fail
                    go_region_with (first | (go_at_call 6; refine (PX.out _).mono ?_; rintro e wa ⟨rfl, ba⟩; have FA : Below wr.heap.size wr wa := (by first | exact below_trans FR ba | exact below_trans (below_drewN FR 1) ba); obtain ⟨i0, i1, i2, i3, i4⟩ := SC.out _ FA))
                    all_goals
                      have q1 := ((NW2.out.below FA).set (i := 0) (.int .i64 h2)).set (i := 1) (.int .i64 l2)
                      have gr := grownBy_trans (setCell_grown wa G8 0 (.int .i64 h2)) (setCell_grown (wa.setCell ⟨G8, 0, none⟩ (.int .i64 h2)) G8 1 (.int .i64 l2))
                      have q2 := below_row (below_trans KW2.out FA) gr (by have := KW.out.2.1; omega)
                      have q3 := (TW2.out.below FA).grown gr (fun e => by have := KW.out.2.2.2; injection e with e; omega)
                      have Q1 : Hid (Blk G8 30 [.int .i64 h2, .int .i64 l2] _) := q1
                      have Q2 : Hid (Below w.heap.size w _) := q2
                      have Q3 : Hid (Blk B1 25 (bkL tb) _) := q3
                      clear q1 q2 q3 gr
                      go_wp2_with fail
                      go_roundw
                      case rel => exact ⟨j + 1, h2, l2, by go_num, by omega, WN.out, Q1.out, Q3.out, Q2.out⟩
                      case measure => simp [intOf]; omega
                  · obtain rfl : j = 12 := by omega
                    have KW2 : Hid (Below w.heap.size w wr) := kw
                    have NO2 : Hid (∀ w' : World, Calls Try.prog 7 #[.agg #[.int .i64 hh, .int .i64 ll]] w' fun e w2 => e = .returned (.bool true) ∧ Below w'.heap.size w' w2) := fun w' => by
                      have := NO.out _ _ _ _ w' WI.out (Nat.le_refl _)
                      rwa [decide_eq_true NT.out] at this
                    have c0 := nw.cell 0 _ rfl
                    have c1 := nw.cell 1 _ rfl
                    clear nw kw tw NW KW PL NO WI hjl hj
                    go_wp2_with fail
                    refine (NO2.out _).mono ?_
                    rintro e w9 ⟨rfl, b9⟩
                    have W9 : Hid (Below w.heap.size w w9) := below_trans KW2.out b9
                    clear b9 KW2
                    go_wp2_with fail
                    go_ret
                    exact ⟨rfl, W9.out⟩
          | true =>
            obtain ⟨x0, x1, x2, x3, x4, x5, x6, x7, x8, x9, x10, x11, rfl⟩ := twelve LL.out
            obtain ⟨y0, y1, y2, y3, y4, y5, y6, y7, y8, y9, y10, y11, rfl⟩ := twelve LR.out
            have T4 : Hid (∀ w', Below w.heap.size w w' → Calls Try.prog 4 #[.slice (some ⟨w'.heap.size, 0, none⟩) 2 2] (w'.alloc (.cells #[.int .i64 x0, .int .i64 x1, .int .i64 x2, .int .i64 x3, .int .i64 x4, .int .i64 x5, .int .i64 x6, .int .i64 x7, .int .i64 x8, .int .i64 x9, .int .i64 x10, .int .i64 x11, .int .i64 y0, .int .i64 y1, .int .i64 y2, .int .i64 y3, .int .i64 y4, .int .i64 y5, .int .i64 y6, .int .i64 y7, .int .i64 y8, .int .i64 y9, .int .i64 y10, .int .i64 y11] 25)) fun e w2 => e = .returned (.tuple #[.agg (bkL tb).toArray, .bool tf]) ∧ Below (w'.alloc (.cells #[.int .i64 x0, .int .i64 x1, .int .i64 x2, .int .i64 x3, .int .i64 x4, .int .i64 x5, .int .i64 x6, .int .i64 x7, .int .i64 x8, .int .i64 x9, .int .i64 x10, .int .i64 x11, .int .i64 y0, .int .i64 y1, .int .i64 y2, .int .i64 y3, .int .i64 y4, .int .i64 y5, .int .i64 y6, .int .i64 y7, .int .i64 y8, .int .i64 y9, .int .i64 y10, .int .i64 y11] 25)).heap.size (w'.alloc (.cells #[.int .i64 x0, .int .i64 x1, .int .i64 x2, .int .i64 x3, .int .i64 x4, .int .i64 x5, .int .i64 x6, .int .i64 x7, .int .i64 x8, .int .i64 x9, .int .i64 x10, .int .i64 x11, .int .i64 y0, .int .i64 y1, .int .i64 y2, .int .i64 y3, .int .i64 y4, .int .i64 y5, .int .i64 y6, .int .i64 y7, .int .i64 y8, .int .i64 y9, .int .i64 y10, .int .i64 y11] 25)) w2) := fun w' hb => by
              have := TO.out [[x0, x1, x2, x3, x4, x5, x6, x7, x8, x9, x10, x11], [y0, y1, y2, y3, y4, y5, y6, y7, y8, y9, y10, y11]] _ _ (RdBk.two w' [x0, x1, x2, x3, x4, x5, x6, x7, x8, x9, x10, x11] [y0, y1, y2, y3, y4, y5, y6, y7, y8, y9, y10, y11] rfl) (fun b hb => by
                simp only [List.mem_cons, List.not_mem_nil, or_false] at hb
                rcases hb with rfl | rfl
                · rw [← HLB.out]; exact bookL_ok (sumB_len _)
                · rw [← HRB.out]; exact bookL_ok (sumB_len _)) (by simp)
              have e := total_split bs m HLF.out HRF.out
              rw [HLB.out, HRB.out] at e
              rw [e, HTB.out, HTF.out] at this
              exact this
            clear HLB HRB HLF HRF
            have etf : (tf != tf) = false := by simp
            go_wp2_with (first
              | (refine step_load rfl 25 _ rfl w5.heap.size 0 rfl [.int .i64 y0, .int .i64 y1, .int .i64 y2, .int .i64 y3, .int .i64 y4, .int .i64 y5, .int .i64 y6, .int .i64 y7, .int .i64 y8, .int .i64 y9, .int .i64 y10, .int .i64 y11] _ (K6.out.at 0 rfl).all Try.underlying25 rfl (infoBl (l := [y0, y1, y2, y3, y4, y5, y6, y7, y8, y9, y10, y11]) rfl) ?_)
              | (refine step_load rfl 25 _ rfl w3.heap.size 0 rfl [.int .i64 x0, .int .i64 x1, .int .i64 x2, .int .i64 x3, .int .i64 x4, .int .i64 x5, .int .i64 x6, .int .i64 x7, .int .i64 x8, .int .i64 x9, .int .i64 x10, .int .i64 x11] _ (K6.out.at 1 rfl).all Try.underlying25 rfl (infoBl (l := [x0, x1, x2, x3, x4, x5, x6, x7, x8, x9, x10, x11]) rfl) ?_))
            refine (T4.out _ K6.out.bb).mono ?_
            rintro e w8 ⟨rfl, b8⟩
            have K8 : Hid (KB w [(w5.heap.size, 25, [.int .i64 y0, .int .i64 y1, .int .i64 y2, .int .i64 y3, .int .i64 y4, .int .i64 y5, .int .i64 y6, .int .i64 y7, .int .i64 y8, .int .i64 y9, .int .i64 y10, .int .i64 y11]), (w3.heap.size, 25, [.int .i64 x0, .int .i64 x1, .int .i64 x2, .int .i64 x3, .int .i64 x4, .int .i64 x5, .int .i64 x6, .int .i64 x7, .int .i64 x8, .int .i64 x9, .int .i64 x10, .int .i64 x11]), (B1, 25, bkL tb)] w8) := (K6.out.call (below_alloc w6 _)).call b8
            have Z8 : Hid (Blk w8.heap.size 25 (bkL zeroL) (w8.alloc (.cells (bkL zeroL).toArray 25))) := Blk.new 25 (bkL zeroL) w8
            clear b8 K6 T4
            go_upto_region 24 with (refine step_store rfl 25 _ _ rfl w8.heap.size 0 25 (bkL zeroL) (bkL tb) rfl rfl Z8.out (by rw [bkL_len, LT.out]; exact Nat.le_refl _) (infoBl LT.out) (bkL_one _) ?_; intro w9 nb9 g9)
            have K9 : Hid (KB w [(w8.heap.size, 25, bkL tb), (w5.heap.size, 25, [.int .i64 y0, .int .i64 y1, .int .i64 y2, .int .i64 y3, .int .i64 y4, .int .i64 y5, .int .i64 y6, .int .i64 y7, .int .i64 y8, .int .i64 y9, .int .i64 y10, .int .i64 y11]), (w3.heap.size, 25, [.int .i64 x0, .int .i64 x1, .int .i64 x2, .int .i64 x3, .int .i64 x4, .int .i64 x5, .int .i64 x6, .int .i64 x7, .int .i64 x8, .int .i64 x9, .int .i64 x10, .int .i64 x11]), (B1, 25, bkL tb)] w9) := K8.out.put _ (by rw [store_all (by rw [bkL_len, bkL_len, LT.out]; rfl)] at nb9; exact nb9) g9
            clear nb9 g9 Z8 K8
            have SMT : Hid (∀ w', Calls Try.prog 5 #[.agg (bkL tb).toArray, .agg (bkL tb).toArray] w' fun e w2 => e = .returned (.bool true) ∧ Below w'.heap.size w' w2) := fun w' => by have := SM.out tb tb w' LT.out LT.out; rwa [decide_eq_true rfl] at this
            go_wp2_with (first
              | (refine step_loadG rfl 25 _ rfl w8.heap.size 0 rfl (bkL tb) _ (K9.out.at 0 rfl).all Try.underlying25 rfl (infoBl LT.out) ?_)
              | (refine step_loadG rfl 25 _ rfl B1 0 rfl (bkL tb) _ (K9.out.at 3 rfl).all Try.underlying25 rfl (infoBl LT.out) ?_))
            refine (SMT.out _).mono ?_
            rintro e w10 ⟨rfl, b10⟩
            have K10 : Hid (KB w _ w10) := K9.out.call b10
            clear b10 K9 SMT
            go_upto_region 26 with fail
            have KT : Hid (Below w.heap.size w _ ∧ Blk B1 25 (bkL tb) _) := ⟨K10.out.bb, K10.out.at 3 rfl⟩
            clear K10
            cases tf with
            | false =>
              go_wp2_with fail
              go_ret
              exact ⟨rfl, KT.out.1⟩
            | true =>
              cases ev with
              | false =>
                go_wp2_with fail
                go_ret
                exact ⟨rfl, KT.out.1⟩
              | true =>
                have NT : Hid (net tb 12 = 0) := by
                  have e := HTB.out
                  rw [bookL_fits HTF.out] at e
                  rw [← e]
                  exact EVA.out (by first | rfl | trivial)
                clear EVA HTB HTF TO SM
                go_wp2_with fail
                obtain ⟨wq, hwq⟩ : ∃ wq, Hid (wq = w10) := ⟨_, rfl⟩
                rw [← hwq.out] at KT ⊢
                clear hwq
                have NW : Hid (Blk wq.heap.size 30 [.int .i64 0, .int .i64 0] (wq.alloc (.cells #[.int .i64 0, .int .i64 0] 30))) := Blk.new 30 [.int .i64 0, .int .i64 0] wq
                have KW : Hid (Below w.heap.size w (wq.alloc (.cells #[.int .i64 0, .int .i64 0] 30)) ∧ w.heap.size ≤ wq.heap.size ∧ Blk B1 25 (bkL tb) (wq.alloc (.cells #[.int .i64 0, .int .i64 0] 30)) ∧ B1 < wq.heap.size) := ⟨KT.out.1.alloc KT.out.1.size _, KT.out.1.size, KT.out.2.old _, KT.out.2.lt⟩
                obtain ⟨G8, HG8⟩ : ∃ G8, Hid (wq.heap.size = G8) := ⟨_, rfl⟩
                rw [HG8.out] at NW KW ⊢
                generalize wq.alloc (.cells #[.int .i64 0, .int .i64 0] 30) = w7 at *
                clear KT HG8
                go_loopw [22] (fun vj wx => ∃ (j : Nat) (hh ll : Int), vj = .int .i64 (j : Int) ∧ j ≤ 12 ∧ Hid (WhIs (net tb j) j hh ll) ∧ Blk G8 30 [.int .i64 hh, .int .i64 ll] wx ∧ Blk B1 25 (bkL tb) wx ∧ Hid (Below w.heap.size w wx)) (fun vj _ => 12 - (intOf vj).toNat)
                case atStart => exact ⟨0, 0, 0, rfl, by omega, (show WhIs (net tb 0) 0 0 0 from wh_zero), NW.out, KW.out.2.2.1, KW.out.1⟩
                case round =>
                  obtain ⟨j, hh, ll, rfl, hj, WI, nw, tw, kw⟩ := hrel
                  by_cases hjl : (j : Int) < 12
                  · have PX : Hid (∀ w' : World, Calls Try.prog 6 #[.agg #[.int .i64 hh, .int .i64 ll], .int .i64 (tb.getD j 0)] w' fun e w2 => e = .returned (.agg #[.int .i64 (whH hh (tb.getD j 0)), .int .i64 (whL ll (tb.getD j 0))]) ∧ Below w'.heap.size w' w2) := fun w' => PL.out _ _ _ _ _ w' WI.out hj (TOK.out.2 j)
                    have WN : Hid (WhIs (net tb (j + 1)) (j + 1) (whH hh (tb.getD j 0)) (whL ll (tb.getD j 0))) := by
                      have := wh_plus WI.out (TOK.out.2 j)
                      show WhIs _ _ _ _
                      rw [net_succ]; exact this
                    have SC : Hid (∀ w', Below wr.heap.size wr w' → w'.cell? ⟨G8, 0, none⟩ = some (.int .i64 hh) ∧ w'.cell? ⟨G8, 1, none⟩ = some (.int .i64 ll) ∧ w'.cell? ⟨B1, j, none⟩ = some (.int .i64 (tb.getD j 0)) ∧ w'.frozen? ⟨G8, 0, none⟩ = false ∧ w'.frozen? ⟨G8, 1, none⟩ = false) := fun w' hb => ⟨(nw.below hb).cell 0 _ rfl, (nw.below hb).cell 1 _ rfl, (tw.below hb).cell j _ (bkL_at (by have := TOK.out.1; omega)), (nw.below hb).fz 0, (nw.below hb).fz 1⟩
                    obtain ⟨c0, c1, c2, f0, f1⟩ := SC.out wr (Below.refl _ _)
                    have FR : Below wr.heap.size wr wr := Below.refl _ _
                    have NW2 : Hid (Blk G8 30 [.int .i64 hh, .int .i64 ll] wr) := nw
                    have TW2 : Hid (Blk B1 25 (bkL tb) wr) := tw
                    have KW2 : Hid (Below w.heap.size w wr) := kw
                    generalize whH hh (tb.getD j 0) = h2 at *
                    generalize whL ll (tb.getD j 0) = l2 at *
                    generalize tb.getD j 0 = x at *
                    have j0 : (0 : Int) ≤ (j : Int) := by omega
                    clear nw kw tw PL NO
                    go_upto_region 32 with fail
                    go_region_with (first | (go_at_call 6; refine (PX.out _).mono ?_; rintro e wa ⟨rfl, ba⟩; have FA : Below wr.heap.size wr wa := (by first | exact below_trans FR ba | exact below_trans (below_drewN FR 1) ba); obtain ⟨i0, i1, i2, i3, i4⟩ := SC.out _ FA))
                    all_goals
                      have q1 := ((NW2.out.below FA).set (i := 0) (.int .i64 h2)).set (i := 1) (.int .i64 l2)
                      have gr := grownBy_trans (setCell_grown wa G8 0 (.int .i64 h2)) (setCell_grown (wa.setCell ⟨G8, 0, none⟩ (.int .i64 h2)) G8 1 (.int .i64 l2))
                      have q2 := below_row (below_trans KW2.out FA) gr (by have := KW.out.2.1; omega)
                      have q3 := (TW2.out.below FA).grown gr (fun e => by have := KW.out.2.2.2; injection e with e; omega)
                      have Q1 : Hid (Blk G8 30 [.int .i64 h2, .int .i64 l2] _) := q1
                      have Q2 : Hid (Below w.heap.size w _) := q2
                      have Q3 : Hid (Blk B1 25 (bkL tb) _) := q3
                      clear q1 q2 q3 gr
                      go_wp2_with fail
                      go_roundw
                      case rel => exact ⟨j + 1, h2, l2, by go_num, by omega, WN.out, Q1.out, Q3.out, Q2.out⟩
                      case measure => simp [intOf]; omega
                  · obtain rfl : j = 12 := by omega
                    have KW2 : Hid (Below w.heap.size w wr) := kw
                    have NO2 : Hid (∀ w' : World, Calls Try.prog 7 #[.agg #[.int .i64 hh, .int .i64 ll]] w' fun e w2 => e = .returned (.bool true) ∧ Below w'.heap.size w' w2) := fun w' => by
                      have := NO.out _ _ _ _ w' WI.out (Nat.le_refl _)
                      rwa [decide_eq_true NT.out] at this
                    have c0 := nw.cell 0 _ rfl
                    have c1 := nw.cell 1 _ rfl
                    clear nw kw tw NW KW PL NO WI hjl hj
                    go_wp2_with fail
                    refine (NO2.out _).mono ?_
                    rintro e w9 ⟨rfl, b9⟩
                    have W9 : Hid (Below w.heap.size w w9) := below_trans KW2.out b9
                    clear b9 KW2
                    go_wp2_with fail
                    go_ret
                    exact ⟨rfl, W9.out⟩
      · have K4 : Hid (KB w [(w3.heap.size, 25, bkL lb), (B1, 25, bkL tb)] w4) := K3.out.put _ (by rw [store_all (by rw [bkL_len, bkL_len, LL.out]; rfl)] at nb4; exact nb4) g4
        clear nb4 g4 Z3 K3
        have T3 : Hid (∀ w', Below w.heap.size w w' → Calls Try.prog 4 #[.slice (Option.map (fun x => x.add (m * 12)) ao) (i - m) (cap - m)] w' fun e w2 => e = .returned (.tuple #[.agg (bkL (bookL (sumB (bs.drop m)))).toArray, .bool (fitsL (sumB (bs.drop m)))]) ∧ Below w'.heap.size w' w2) := fun w' hb => TO.out (bs.drop m) (.slice (Option.map (fun x => x.add (m * 12)) ao) (i - m) (cap - m)) w' ((RD.out w' hb).drop hmn) (fun b hb => OKA.out b (List.mem_of_mem_drop hb)) (by have := HN.out; rw [List.length_drop]; omega)
        have LR : Hid ((bookL (sumB (bs.drop m))).length = 12) := bookL_len (sumB_len _)
        obtain ⟨rb, hrb⟩ : ∃ rb, bookL (sumB (bs.drop m)) = rb := ⟨_, rfl⟩
        obtain ⟨rf, hrf⟩ : ∃ rf, fitsL (sumB (bs.drop m)) = rf := ⟨_, rfl⟩
        rw [hrb, hrf] at T3
        rw [hrb] at LR
        have HRB : Hid (bookL (sumB (bs.drop m)) = rb) := hrb
        have HRF : Hid (fitsL (sumB (bs.drop m)) = rf) := hrf
        clear hrb hrf
        refine (T3.out _ K4.out.bb).mono ?_
        rintro e w5 ⟨rfl, b5⟩
        have K5 : Hid (KB w [(w3.heap.size, 25, bkL lb), (B1, 25, bkL tb)] w5) := K4.out.call b5
        have Z5 : Hid (Blk w5.heap.size 25 (bkL zeroL) (w5.alloc (.cells (bkL zeroL).toArray 25))) := Blk.new 25 (bkL zeroL) w5
        clear b5 K4 T3
        go_upto_region 22 with (refine step_store rfl 25 _ _ rfl w5.heap.size 0 25 (bkL zeroL) (bkL rb) rfl rfl Z5.out (by rw [bkL_len, LR.out]; exact Nat.le_refl _) (infoBl LR.out) (bkL_one _) ?_; intro w6 nb6 g6)
        have K6 : Hid (KB w [(w5.heap.size, 25, bkL rb), (w3.heap.size, 25, bkL lb), (B1, 25, bkL tb)] w6) := K5.out.put _ (by rw [store_all (by rw [bkL_len, bkL_len, LR.out]; rfl)] at nb6; exact nb6) g6
        clear nb6 g6 Z5 K5
        cases lf with
        | false =>
          go_upto_region 26 with fail
          have KT : Hid (Below w.heap.size w _ ∧ Blk B1 25 (bkL tb) _) := ⟨K6.out.bb, K6.out.at 2 rfl⟩
          clear K6
          cases tf with
          | false =>
            go_wp2_with fail
            go_ret
            exact ⟨rfl, KT.out.1⟩
          | true =>
            cases ev with
            | false =>
              go_wp2_with fail
              go_ret
              exact ⟨rfl, KT.out.1⟩
            | true =>
              have NT : Hid (net tb 12 = 0) := by
                have e := HTB.out
                rw [bookL_fits HTF.out] at e
                rw [← e]
                exact EVA.out (by first | rfl | trivial)
              clear EVA HTB HTF TO SM
              go_wp2_with fail
              obtain ⟨wq, hwq⟩ : ∃ wq, Hid (wq = w6) := ⟨_, rfl⟩
              rw [← hwq.out] at KT ⊢
              clear hwq
              have NW : Hid (Blk wq.heap.size 30 [.int .i64 0, .int .i64 0] (wq.alloc (.cells #[.int .i64 0, .int .i64 0] 30))) := Blk.new 30 [.int .i64 0, .int .i64 0] wq
              have KW : Hid (Below w.heap.size w (wq.alloc (.cells #[.int .i64 0, .int .i64 0] 30)) ∧ w.heap.size ≤ wq.heap.size ∧ Blk B1 25 (bkL tb) (wq.alloc (.cells #[.int .i64 0, .int .i64 0] 30)) ∧ B1 < wq.heap.size) := ⟨KT.out.1.alloc KT.out.1.size _, KT.out.1.size, KT.out.2.old _, KT.out.2.lt⟩
              obtain ⟨G8, HG8⟩ : ∃ G8, Hid (wq.heap.size = G8) := ⟨_, rfl⟩
              rw [HG8.out] at NW KW ⊢
              generalize wq.alloc (.cells #[.int .i64 0, .int .i64 0] 30) = w7 at *
              clear KT HG8
              go_loopw [22] (fun vj wx => ∃ (j : Nat) (hh ll : Int), vj = .int .i64 (j : Int) ∧ j ≤ 12 ∧ Hid (WhIs (net tb j) j hh ll) ∧ Blk G8 30 [.int .i64 hh, .int .i64 ll] wx ∧ Blk B1 25 (bkL tb) wx ∧ Hid (Below w.heap.size w wx)) (fun vj _ => 12 - (intOf vj).toNat)
              case atStart => exact ⟨0, 0, 0, rfl, by omega, (show WhIs (net tb 0) 0 0 0 from wh_zero), NW.out, KW.out.2.2.1, KW.out.1⟩
              case round =>
                obtain ⟨j, hh, ll, rfl, hj, WI, nw, tw, kw⟩ := hrel
                by_cases hjl : (j : Int) < 12
                · have PX : Hid (∀ w' : World, Calls Try.prog 6 #[.agg #[.int .i64 hh, .int .i64 ll], .int .i64 (tb.getD j 0)] w' fun e w2 => e = .returned (.agg #[.int .i64 (whH hh (tb.getD j 0)), .int .i64 (whL ll (tb.getD j 0))]) ∧ Below w'.heap.size w' w2) := fun w' => PL.out _ _ _ _ _ w' WI.out hj (TOK.out.2 j)
                  have WN : Hid (WhIs (net tb (j + 1)) (j + 1) (whH hh (tb.getD j 0)) (whL ll (tb.getD j 0))) := by
                    have := wh_plus WI.out (TOK.out.2 j)
                    show WhIs _ _ _ _
                    rw [net_succ]; exact this
                  have SC : Hid (∀ w', Below wr.heap.size wr w' → w'.cell? ⟨G8, 0, none⟩ = some (.int .i64 hh) ∧ w'.cell? ⟨G8, 1, none⟩ = some (.int .i64 ll) ∧ w'.cell? ⟨B1, j, none⟩ = some (.int .i64 (tb.getD j 0)) ∧ w'.frozen? ⟨G8, 0, none⟩ = false ∧ w'.frozen? ⟨G8, 1, none⟩ = false) := fun w' hb => ⟨(nw.below hb).cell 0 _ rfl, (nw.below hb).cell 1 _ rfl, (tw.below hb).cell j _ (bkL_at (by have := TOK.out.1; omega)), (nw.below hb).fz 0, (nw.below hb).fz 1⟩
                  obtain ⟨c0, c1, c2, f0, f1⟩ := SC.out wr (Below.refl _ _)
                  have FR : Below wr.heap.size wr wr := Below.refl _ _
                  have NW2 : Hid (Blk G8 30 [.int .i64 hh, .int .i64 ll] wr) := nw
                  have TW2 : Hid (Blk B1 25 (bkL tb) wr) := tw
                  have KW2 : Hid (Below w.heap.size w wr) := kw
                  generalize whH hh (tb.getD j 0) = h2 at *
                  generalize whL ll (tb.getD j 0) = l2 at *
                  generalize tb.getD j 0 = x at *
                  have j0 : (0 : Int) ≤ (j : Int) := by omega
                  clear nw kw tw PL NO
                  go_upto_region 32 with fail
                  go_region_with (first | (go_at_call 6; refine (PX.out _).mono ?_; rintro e wa ⟨rfl, ba⟩; have FA : Below wr.heap.size wr wa := (by first | exact below_trans FR ba | exact below_trans (below_drewN FR 1) ba); obtain ⟨i0, i1, i2, i3, i4⟩ := SC.out _ FA))
                  all_goals
                    have q1 := ((NW2.out.below FA).set (i := 0) (.int .i64 h2)).set (i := 1) (.int .i64 l2)
                    have gr := grownBy_trans (setCell_grown wa G8 0 (.int .i64 h2)) (setCell_grown (wa.setCell ⟨G8, 0, none⟩ (.int .i64 h2)) G8 1 (.int .i64 l2))
                    have q2 := below_row (below_trans KW2.out FA) gr (by have := KW.out.2.1; omega)
                    have q3 := (TW2.out.below FA).grown gr (fun e => by have := KW.out.2.2.2; injection e with e; omega)
                    have Q1 : Hid (Blk G8 30 [.int .i64 h2, .int .i64 l2] _) := q1
                    have Q2 : Hid (Below w.heap.size w _) := q2
                    have Q3 : Hid (Blk B1 25 (bkL tb) _) := q3
                    clear q1 q2 q3 gr
                    go_wp2_with fail
                    go_roundw
                    case rel => exact ⟨j + 1, h2, l2, by go_num, by omega, WN.out, Q1.out, Q3.out, Q2.out⟩
                    case measure => simp [intOf]; omega
                · obtain rfl : j = 12 := by omega
                  have KW2 : Hid (Below w.heap.size w wr) := kw
                  have NO2 : Hid (∀ w' : World, Calls Try.prog 7 #[.agg #[.int .i64 hh, .int .i64 ll]] w' fun e w2 => e = .returned (.bool true) ∧ Below w'.heap.size w' w2) := fun w' => by
                    have := NO.out _ _ _ _ w' WI.out (Nat.le_refl _)
                    rwa [decide_eq_true NT.out] at this
                  have c0 := nw.cell 0 _ rfl
                  have c1 := nw.cell 1 _ rfl
                  clear nw kw tw NW KW PL NO WI hjl hj
                  go_wp2_with fail
                  refine (NO2.out _).mono ?_
                  rintro e w9 ⟨rfl, b9⟩
                  have W9 : Hid (Below w.heap.size w w9) := below_trans KW2.out b9
                  clear b9 KW2
                  go_wp2_with fail
                  go_ret
                  exact ⟨rfl, W9.out⟩
        | true =>
          cases rf with
          | false =>
            go_upto_region 26 with fail
            have KT : Hid (Below w.heap.size w _ ∧ Blk B1 25 (bkL tb) _) := ⟨K6.out.bb, K6.out.at 2 rfl⟩
            clear K6
            cases tf with
            | false =>
              go_wp2_with fail
              go_ret
              exact ⟨rfl, KT.out.1⟩
            | true =>
              cases ev with
              | false =>
                go_wp2_with fail
                go_ret
                exact ⟨rfl, KT.out.1⟩
              | true =>
                have NT : Hid (net tb 12 = 0) := by
                  have e := HTB.out
                  rw [bookL_fits HTF.out] at e
                  rw [← e]
                  exact EVA.out (by first | rfl | trivial)
                clear EVA HTB HTF TO SM
                go_wp2_with fail
                obtain ⟨wq, hwq⟩ : ∃ wq, Hid (wq = w6) := ⟨_, rfl⟩
                rw [← hwq.out] at KT ⊢
                clear hwq
                have NW : Hid (Blk wq.heap.size 30 [.int .i64 0, .int .i64 0] (wq.alloc (.cells #[.int .i64 0, .int .i64 0] 30))) := Blk.new 30 [.int .i64 0, .int .i64 0] wq
                have KW : Hid (Below w.heap.size w (wq.alloc (.cells #[.int .i64 0, .int .i64 0] 30)) ∧ w.heap.size ≤ wq.heap.size ∧ Blk B1 25 (bkL tb) (wq.alloc (.cells #[.int .i64 0, .int .i64 0] 30)) ∧ B1 < wq.heap.size) := ⟨KT.out.1.alloc KT.out.1.size _, KT.out.1.size, KT.out.2.old _, KT.out.2.lt⟩
                obtain ⟨G8, HG8⟩ : ∃ G8, Hid (wq.heap.size = G8) := ⟨_, rfl⟩
                rw [HG8.out] at NW KW ⊢
                generalize wq.alloc (.cells #[.int .i64 0, .int .i64 0] 30) = w7 at *
                clear KT HG8
                go_loopw [22] (fun vj wx => ∃ (j : Nat) (hh ll : Int), vj = .int .i64 (j : Int) ∧ j ≤ 12 ∧ Hid (WhIs (net tb j) j hh ll) ∧ Blk G8 30 [.int .i64 hh, .int .i64 ll] wx ∧ Blk B1 25 (bkL tb) wx ∧ Hid (Below w.heap.size w wx)) (fun vj _ => 12 - (intOf vj).toNat)
                case atStart => exact ⟨0, 0, 0, rfl, by omega, (show WhIs (net tb 0) 0 0 0 from wh_zero), NW.out, KW.out.2.2.1, KW.out.1⟩
                case round =>
                  obtain ⟨j, hh, ll, rfl, hj, WI, nw, tw, kw⟩ := hrel
                  by_cases hjl : (j : Int) < 12
                  · have PX : Hid (∀ w' : World, Calls Try.prog 6 #[.agg #[.int .i64 hh, .int .i64 ll], .int .i64 (tb.getD j 0)] w' fun e w2 => e = .returned (.agg #[.int .i64 (whH hh (tb.getD j 0)), .int .i64 (whL ll (tb.getD j 0))]) ∧ Below w'.heap.size w' w2) := fun w' => PL.out _ _ _ _ _ w' WI.out hj (TOK.out.2 j)
                    have WN : Hid (WhIs (net tb (j + 1)) (j + 1) (whH hh (tb.getD j 0)) (whL ll (tb.getD j 0))) := by
                      have := wh_plus WI.out (TOK.out.2 j)
                      show WhIs _ _ _ _
                      rw [net_succ]; exact this
                    have SC : Hid (∀ w', Below wr.heap.size wr w' → w'.cell? ⟨G8, 0, none⟩ = some (.int .i64 hh) ∧ w'.cell? ⟨G8, 1, none⟩ = some (.int .i64 ll) ∧ w'.cell? ⟨B1, j, none⟩ = some (.int .i64 (tb.getD j 0)) ∧ w'.frozen? ⟨G8, 0, none⟩ = false ∧ w'.frozen? ⟨G8, 1, none⟩ = false) := fun w' hb => ⟨(nw.below hb).cell 0 _ rfl, (nw.below hb).cell 1 _ rfl, (tw.below hb).cell j _ (bkL_at (by have := TOK.out.1; omega)), (nw.below hb).fz 0, (nw.below hb).fz 1⟩
                    obtain ⟨c0, c1, c2, f0, f1⟩ := SC.out wr (Below.refl _ _)
                    have FR : Below wr.heap.size wr wr := Below.refl _ _
                    have NW2 : Hid (Blk G8 30 [.int .i64 hh, .int .i64 ll] wr) := nw
                    have TW2 : Hid (Blk B1 25 (bkL tb) wr) := tw
                    have KW2 : Hid (Below w.heap.size w wr) := kw
                    generalize whH hh (tb.getD j 0) = h2 at *
                    generalize whL ll (tb.getD j 0) = l2 at *
                    generalize tb.getD j 0 = x at *
                    have j0 : (0 : Int) ≤ (j : Int) := by omega
                    clear nw kw tw PL NO
                    go_upto_region 32 with fail
                    go_region_with (first | (go_at_call 6; refine (PX.out _).mono ?_; rintro e wa ⟨rfl, ba⟩; have FA : Below wr.heap.size wr wa := (by first | exact below_trans FR ba | exact below_trans (below_drewN FR 1) ba); obtain ⟨i0, i1, i2, i3, i4⟩ := SC.out _ FA))
                    all_goals
                      have q1 := ((NW2.out.below FA).set (i := 0) (.int .i64 h2)).set (i := 1) (.int .i64 l2)
                      have gr := grownBy_trans (setCell_grown wa G8 0 (.int .i64 h2)) (setCell_grown (wa.setCell ⟨G8, 0, none⟩ (.int .i64 h2)) G8 1 (.int .i64 l2))
                      have q2 := below_row (below_trans KW2.out FA) gr (by have := KW.out.2.1; omega)
                      have q3 := (TW2.out.below FA).grown gr (fun e => by have := KW.out.2.2.2; injection e with e; omega)
                      have Q1 : Hid (Blk G8 30 [.int .i64 h2, .int .i64 l2] _) := q1
                      have Q2 : Hid (Below w.heap.size w _) := q2
                      have Q3 : Hid (Blk B1 25 (bkL tb) _) := q3
                      clear q1 q2 q3 gr
                      go_wp2_with fail
                      go_roundw
                      case rel => exact ⟨j + 1, h2, l2, by go_num, by omega, WN.out, Q1.out, Q3.out, Q2.out⟩
                      case measure => simp [intOf]; omega
                  · obtain rfl : j = 12 := by omega
                    have KW2 : Hid (Below w.heap.size w wr) := kw
                    have NO2 : Hid (∀ w' : World, Calls Try.prog 7 #[.agg #[.int .i64 hh, .int .i64 ll]] w' fun e w2 => e = .returned (.bool true) ∧ Below w'.heap.size w' w2) := fun w' => by
                      have := NO.out _ _ _ _ w' WI.out (Nat.le_refl _)
                      rwa [decide_eq_true NT.out] at this
                    have c0 := nw.cell 0 _ rfl
                    have c1 := nw.cell 1 _ rfl
                    clear nw kw tw NW KW PL NO WI hjl hj
                    go_wp2_with fail
                    refine (NO2.out _).mono ?_
                    rintro e w9 ⟨rfl, b9⟩
                    have W9 : Hid (Below w.heap.size w w9) := below_trans KW2.out b9
                    clear b9 KW2
                    go_wp2_with fail
                    go_ret
                    exact ⟨rfl, W9.out⟩
          | true =>
            obtain ⟨x0, x1, x2, x3, x4, x5, x6, x7, x8, x9, x10, x11, rfl⟩ := twelve LL.out
            obtain ⟨y0, y1, y2, y3, y4, y5, y6, y7, y8, y9, y10, y11, rfl⟩ := twelve LR.out
            have T4 : Hid (∀ w', Below w.heap.size w w' → Calls Try.prog 4 #[.slice (some ⟨w'.heap.size, 0, none⟩) 2 2] (w'.alloc (.cells #[.int .i64 x0, .int .i64 x1, .int .i64 x2, .int .i64 x3, .int .i64 x4, .int .i64 x5, .int .i64 x6, .int .i64 x7, .int .i64 x8, .int .i64 x9, .int .i64 x10, .int .i64 x11, .int .i64 y0, .int .i64 y1, .int .i64 y2, .int .i64 y3, .int .i64 y4, .int .i64 y5, .int .i64 y6, .int .i64 y7, .int .i64 y8, .int .i64 y9, .int .i64 y10, .int .i64 y11] 25)) fun e w2 => e = .returned (.tuple #[.agg (bkL tb).toArray, .bool tf]) ∧ Below (w'.alloc (.cells #[.int .i64 x0, .int .i64 x1, .int .i64 x2, .int .i64 x3, .int .i64 x4, .int .i64 x5, .int .i64 x6, .int .i64 x7, .int .i64 x8, .int .i64 x9, .int .i64 x10, .int .i64 x11, .int .i64 y0, .int .i64 y1, .int .i64 y2, .int .i64 y3, .int .i64 y4, .int .i64 y5, .int .i64 y6, .int .i64 y7, .int .i64 y8, .int .i64 y9, .int .i64 y10, .int .i64 y11] 25)).heap.size (w'.alloc (.cells #[.int .i64 x0, .int .i64 x1, .int .i64 x2, .int .i64 x3, .int .i64 x4, .int .i64 x5, .int .i64 x6, .int .i64 x7, .int .i64 x8, .int .i64 x9, .int .i64 x10, .int .i64 x11, .int .i64 y0, .int .i64 y1, .int .i64 y2, .int .i64 y3, .int .i64 y4, .int .i64 y5, .int .i64 y6, .int .i64 y7, .int .i64 y8, .int .i64 y9, .int .i64 y10, .int .i64 y11] 25)) w2) := fun w' hb => by
              have := TO.out [[x0, x1, x2, x3, x4, x5, x6, x7, x8, x9, x10, x11], [y0, y1, y2, y3, y4, y5, y6, y7, y8, y9, y10, y11]] _ _ (RdBk.two w' [x0, x1, x2, x3, x4, x5, x6, x7, x8, x9, x10, x11] [y0, y1, y2, y3, y4, y5, y6, y7, y8, y9, y10, y11] rfl) (fun b hb => by
                simp only [List.mem_cons, List.not_mem_nil, or_false] at hb
                rcases hb with rfl | rfl
                · rw [← HLB.out]; exact bookL_ok (sumB_len _)
                · rw [← HRB.out]; exact bookL_ok (sumB_len _)) (by simp)
              have e := total_split bs m HLF.out HRF.out
              rw [HLB.out, HRB.out] at e
              rw [e, HTB.out, HTF.out] at this
              exact this
            clear HLB HRB HLF HRF
            have etf : (tf != tf) = false := by simp
            go_wp2_with (first
              | (refine step_load rfl 25 _ rfl w5.heap.size 0 rfl [.int .i64 y0, .int .i64 y1, .int .i64 y2, .int .i64 y3, .int .i64 y4, .int .i64 y5, .int .i64 y6, .int .i64 y7, .int .i64 y8, .int .i64 y9, .int .i64 y10, .int .i64 y11] _ (K6.out.at 0 rfl).all Try.underlying25 rfl (infoBl (l := [y0, y1, y2, y3, y4, y5, y6, y7, y8, y9, y10, y11]) rfl) ?_)
              | (refine step_load rfl 25 _ rfl w3.heap.size 0 rfl [.int .i64 x0, .int .i64 x1, .int .i64 x2, .int .i64 x3, .int .i64 x4, .int .i64 x5, .int .i64 x6, .int .i64 x7, .int .i64 x8, .int .i64 x9, .int .i64 x10, .int .i64 x11] _ (K6.out.at 1 rfl).all Try.underlying25 rfl (infoBl (l := [x0, x1, x2, x3, x4, x5, x6, x7, x8, x9, x10, x11]) rfl) ?_))
            refine (T4.out _ K6.out.bb).mono ?_
            rintro e w8 ⟨rfl, b8⟩
            have K8 : Hid (KB w [(w5.heap.size, 25, [.int .i64 y0, .int .i64 y1, .int .i64 y2, .int .i64 y3, .int .i64 y4, .int .i64 y5, .int .i64 y6, .int .i64 y7, .int .i64 y8, .int .i64 y9, .int .i64 y10, .int .i64 y11]), (w3.heap.size, 25, [.int .i64 x0, .int .i64 x1, .int .i64 x2, .int .i64 x3, .int .i64 x4, .int .i64 x5, .int .i64 x6, .int .i64 x7, .int .i64 x8, .int .i64 x9, .int .i64 x10, .int .i64 x11]), (B1, 25, bkL tb)] w8) := (K6.out.call (below_alloc w6 _)).call b8
            have Z8 : Hid (Blk w8.heap.size 25 (bkL zeroL) (w8.alloc (.cells (bkL zeroL).toArray 25))) := Blk.new 25 (bkL zeroL) w8
            clear b8 K6 T4
            go_upto_region 24 with (refine step_store rfl 25 _ _ rfl w8.heap.size 0 25 (bkL zeroL) (bkL tb) rfl rfl Z8.out (by rw [bkL_len, LT.out]; exact Nat.le_refl _) (infoBl LT.out) (bkL_one _) ?_; intro w9 nb9 g9)
            have K9 : Hid (KB w [(w8.heap.size, 25, bkL tb), (w5.heap.size, 25, [.int .i64 y0, .int .i64 y1, .int .i64 y2, .int .i64 y3, .int .i64 y4, .int .i64 y5, .int .i64 y6, .int .i64 y7, .int .i64 y8, .int .i64 y9, .int .i64 y10, .int .i64 y11]), (w3.heap.size, 25, [.int .i64 x0, .int .i64 x1, .int .i64 x2, .int .i64 x3, .int .i64 x4, .int .i64 x5, .int .i64 x6, .int .i64 x7, .int .i64 x8, .int .i64 x9, .int .i64 x10, .int .i64 x11]), (B1, 25, bkL tb)] w9) := K8.out.put _ (by rw [store_all (by rw [bkL_len, bkL_len, LT.out]; rfl)] at nb9; exact nb9) g9
            clear nb9 g9 Z8 K8
            have SMT : Hid (∀ w', Calls Try.prog 5 #[.agg (bkL tb).toArray, .agg (bkL tb).toArray] w' fun e w2 => e = .returned (.bool true) ∧ Below w'.heap.size w' w2) := fun w' => by have := SM.out tb tb w' LT.out LT.out; rwa [decide_eq_true rfl] at this
            go_wp2_with (first
              | (refine step_loadG rfl 25 _ rfl w8.heap.size 0 rfl (bkL tb) _ (K9.out.at 0 rfl).all Try.underlying25 rfl (infoBl LT.out) ?_)
              | (refine step_loadG rfl 25 _ rfl B1 0 rfl (bkL tb) _ (K9.out.at 3 rfl).all Try.underlying25 rfl (infoBl LT.out) ?_))
            refine (SMT.out _).mono ?_
            rintro e w10 ⟨rfl, b10⟩
            have K10 : Hid (KB w _ w10) := K9.out.call b10
            clear b10 K9 SMT
            go_upto_region 26 with fail
            have KT : Hid (Below w.heap.size w _ ∧ Blk B1 25 (bkL tb) _) := ⟨K10.out.bb, K10.out.at 3 rfl⟩
            clear K10
            cases tf with
            | false =>
              go_wp2_with fail
              go_ret
              exact ⟨rfl, KT.out.1⟩
            | true =>
              cases ev with
              | false =>
                go_wp2_with fail
                go_ret
                exact ⟨rfl, KT.out.1⟩
              | true =>
                have NT : Hid (net tb 12 = 0) := by
                  have e := HTB.out
                  rw [bookL_fits HTF.out] at e
                  rw [← e]
                  exact EVA.out (by first | rfl | trivial)
                clear EVA HTB HTF TO SM
                go_wp2_with fail
                obtain ⟨wq, hwq⟩ : ∃ wq, Hid (wq = w10) := ⟨_, rfl⟩
                rw [← hwq.out] at KT ⊢
                clear hwq
                have NW : Hid (Blk wq.heap.size 30 [.int .i64 0, .int .i64 0] (wq.alloc (.cells #[.int .i64 0, .int .i64 0] 30))) := Blk.new 30 [.int .i64 0, .int .i64 0] wq
                have KW : Hid (Below w.heap.size w (wq.alloc (.cells #[.int .i64 0, .int .i64 0] 30)) ∧ w.heap.size ≤ wq.heap.size ∧ Blk B1 25 (bkL tb) (wq.alloc (.cells #[.int .i64 0, .int .i64 0] 30)) ∧ B1 < wq.heap.size) := ⟨KT.out.1.alloc KT.out.1.size _, KT.out.1.size, KT.out.2.old _, KT.out.2.lt⟩
                obtain ⟨G8, HG8⟩ : ∃ G8, Hid (wq.heap.size = G8) := ⟨_, rfl⟩
                rw [HG8.out] at NW KW ⊢
                generalize wq.alloc (.cells #[.int .i64 0, .int .i64 0] 30) = w7 at *
                clear KT HG8
                go_loopw [22] (fun vj wx => ∃ (j : Nat) (hh ll : Int), vj = .int .i64 (j : Int) ∧ j ≤ 12 ∧ Hid (WhIs (net tb j) j hh ll) ∧ Blk G8 30 [.int .i64 hh, .int .i64 ll] wx ∧ Blk B1 25 (bkL tb) wx ∧ Hid (Below w.heap.size w wx)) (fun vj _ => 12 - (intOf vj).toNat)
                case atStart => exact ⟨0, 0, 0, rfl, by omega, (show WhIs (net tb 0) 0 0 0 from wh_zero), NW.out, KW.out.2.2.1, KW.out.1⟩
                case round =>
                  obtain ⟨j, hh, ll, rfl, hj, WI, nw, tw, kw⟩ := hrel
                  by_cases hjl : (j : Int) < 12
                  · have PX : Hid (∀ w' : World, Calls Try.prog 6 #[.agg #[.int .i64 hh, .int .i64 ll], .int .i64 (tb.getD j 0)] w' fun e w2 => e = .returned (.agg #[.int .i64 (whH hh (tb.getD j 0)), .int .i64 (whL ll (tb.getD j 0))]) ∧ Below w'.heap.size w' w2) := fun w' => PL.out _ _ _ _ _ w' WI.out hj (TOK.out.2 j)
                    have WN : Hid (WhIs (net tb (j + 1)) (j + 1) (whH hh (tb.getD j 0)) (whL ll (tb.getD j 0))) := by
                      have := wh_plus WI.out (TOK.out.2 j)
                      show WhIs _ _ _ _
                      rw [net_succ]; exact this
                    have SC : Hid (∀ w', Below wr.heap.size wr w' → w'.cell? ⟨G8, 0, none⟩ = some (.int .i64 hh) ∧ w'.cell? ⟨G8, 1, none⟩ = some (.int .i64 ll) ∧ w'.cell? ⟨B1, j, none⟩ = some (.int .i64 (tb.getD j 0)) ∧ w'.frozen? ⟨G8, 0, none⟩ = false ∧ w'.frozen? ⟨G8, 1, none⟩ = false) := fun w' hb => ⟨(nw.below hb).cell 0 _ rfl, (nw.below hb).cell 1 _ rfl, (tw.below hb).cell j _ (bkL_at (by have := TOK.out.1; omega)), (nw.below hb).fz 0, (nw.below hb).fz 1⟩
                    obtain ⟨c0, c1, c2, f0, f1⟩ := SC.out wr (Below.refl _ _)
                    have FR : Below wr.heap.size wr wr := Below.refl _ _
                    have NW2 : Hid (Blk G8 30 [.int .i64 hh, .int .i64 ll] wr) := nw
                    have TW2 : Hid (Blk B1 25 (bkL tb) wr) := tw
                    have KW2 : Hid (Below w.heap.size w wr) := kw
                    generalize whH hh (tb.getD j 0) = h2 at *
                    generalize whL ll (tb.getD j 0) = l2 at *
                    generalize tb.getD j 0 = x at *
                    have j0 : (0 : Int) ≤ (j : Int) := by omega
                    clear nw kw tw PL NO
                    go_upto_region 32 with fail
                    go_region_with (first | (go_at_call 6; refine (PX.out _).mono ?_; rintro e wa ⟨rfl, ba⟩; have FA : Below wr.heap.size wr wa := (by first | exact below_trans FR ba | exact below_trans (below_drewN FR 1) ba); obtain ⟨i0, i1, i2, i3, i4⟩ := SC.out _ FA))
                    all_goals
                      have q1 := ((NW2.out.below FA).set (i := 0) (.int .i64 h2)).set (i := 1) (.int .i64 l2)
                      have gr := grownBy_trans (setCell_grown wa G8 0 (.int .i64 h2)) (setCell_grown (wa.setCell ⟨G8, 0, none⟩ (.int .i64 h2)) G8 1 (.int .i64 l2))
                      have q2 := below_row (below_trans KW2.out FA) gr (by have := KW.out.2.1; omega)
                      have q3 := (TW2.out.below FA).grown gr (fun e => by have := KW.out.2.2.2; injection e with e; omega)
                      have Q1 : Hid (Blk G8 30 [.int .i64 h2, .int .i64 l2] _) := q1
                      have Q2 : Hid (Below w.heap.size w _) := q2
                      have Q3 : Hid (Blk B1 25 (bkL tb) _) := q3
                      clear q1 q2 q3 gr
                      go_wp2_with fail
                      go_roundw
                      case rel => exact ⟨j + 1, h2, l2, by go_num, by omega, WN.out, Q1.out, Q3.out, Q2.out⟩
                      case measure => simp [intOf]; omega
                  · obtain rfl : j = 12 := by omega
                    have KW2 : Hid (Below w.heap.size w wr) := kw
                    have NO2 : Hid (∀ w' : World, Calls Try.prog 7 #[.agg #[.int .i64 hh, .int .i64 ll]] w' fun e w2 => e = .returned (.bool true) ∧ Below w'.heap.size w' w2) := fun w' => by
                      have := NO.out _ _ _ _ w' WI.out (Nat.le_refl _)
                      rwa [decide_eq_true NT.out] at this
                    have c0 := nw.cell 0 _ rfl
                    have c1 := nw.cell 1 _ rfl
                    clear nw kw tw NW KW PL NO WI hjl hj
                    go_wp2_with fail
                    refine (NO2.out _).mono ?_
                    rintro e w9 ⟨rfl, b9⟩
                    have W9 : Hid (Below w.heap.size w w9) := below_trans KW2.out b9
                    clear b9 KW2
                    go_wp2_with fail
                    go_ret
                    exact ⟨rfl, W9.out⟩

end Go.Proofs.Ytcigbghbiapohaa
