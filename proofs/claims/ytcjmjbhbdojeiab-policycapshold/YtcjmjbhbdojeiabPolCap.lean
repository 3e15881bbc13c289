/-
  Ours: the walk of PolicyCapsHold (gen_polcap.py: THE SEAT's OWN NUMBERS).
-/
import Derived.Test.YtcjmjbhbdojeiabPolMs
import Derived.Test.YtcjmjbhbdojeiabPolAss
import Derived.Test.YtcjmjbhbdojeiabPolMi
import Derived.Deep.CutRange
import Derived.Deep.RegionHeld3
namespace Go.Proofs.Ytcjmjbhbdojeiab
open Go.RowKit LedM PolM

namespace PolM
theorem late_in {l : List Int} (n : Nums l) (a : Int) : 0 ≤ lateV l a ∧ lateV l a ≤ 1000000000 ∧ (0 ≤ a → l.getD 5 0 ≤ lateV l a) := by
  obtain ⟨h1, h2⟩ := n.least
  obtain ⟨h3, h4⟩ := n.most
  unfold lateV clV
  split
  · omega
  · split
    · omega
    · split <;> omega
/-- A fee under the caps. -/
theorem ass_in {l : List Int} (n : Nums l) (a c f : Int) (c0 : 0 ≤ c) (c1 : c ≤ l.getD 7 0) (f0 : 0 ≤ f) (f1 : f ≤ l.getD 8 0) :
    0 ≤ assV l a c f ∧ assV l a c f ≤ lateV l a ∧ c + assV l a c f ≤ l.getD 7 0 ∧ f + assV l a c f ≤ l.getD 8 0 ∧ (assV l a c f < lateV l a → c + assV l a c f = l.getD 7 0 ∨ f + assV l a c f = l.getD 8 0) := by
  obtain ⟨h1, h2, _⟩ := late_in n a
  have e7 : rmV (l.getD 7 0) c = l.getD 7 0 - c := by unfold rmV clV; rw [if_neg (by omega), if_neg (by omega)]
  have e8 : rmV (l.getD 8 0) f = l.getD 8 0 - f := by unfold rmV clV; rw [if_neg (by omega), if_neg (by omega)]
  unfold assV m3
  rw [e7, e8]
  generalize lateV l a = x at *
  by_cases g1 : l.getD 7 0 - c < x
  · rw [if_pos g1]
    split <;> omega
  · rw [if_neg g1]
    split <;> omega
end PolM

set_option maxRecDepth 20000 in
set_option maxHeartbeats 2000000 in
theorem caps_any (l hs : List Int) (s : Value) (ms ts : List Int) (am at' : Option Addr) (cm ct : Nat) (w : World) (hl : l.length = 17) (ok : ∀ k, i64 (l.getD k 0)) (hr : Rd w s (bkL hs)) (hrm : Rd w (.slice am ms.length cm) (bkL ms)) (hrt : Rd w (.slice at' ts.length ct) (bkL ts)) (okm : ∀ k, i64 (ms.getD k 0)) (okh : ∀ k, i64 (hs.getD k 0)) :
    Calls Try.prog 3 #[PV l s, .slice am ms.length cm, .slice at' ts.length ct] w fun e w' => e = .returned (.bool true) ∧ Below w.heap.size w w' := by
  by_cases hbig : 1000 < hs.length
  · obtain ⟨ao, cp, rfl, -, -, -⟩ := hr
    rw [bkL_len]
    show Calls _ _ #[.agg (polL l (.slice ao hs.length cp)).toArray, _, _] _ _
    have c17 := (Blk.new 24 (polL l (.slice ao hs.length cp)) w).cell 17 _ (polL_hol hl)
    have BB : Hid (Below w.heap.size w (w.alloc (.cells (polL l (.slice ao hs.length cp)).toArray 24))) := below_alloc _ _
    generalize polL l (.slice ao hs.length cp) = cs at *
    generalize hs.length = N at *
    have hbig' : (1000 : Int) < (N : Int) := by omega
    go_enter Try.func3, Try.ntmps3
    go_wp2_with fail
    go_ret
    exact ⟨rfl, BB.out⟩
  by_cases hbm : 1000 < ms.length
  · obtain ⟨ao, cp, rfl, -, -, -⟩ := hr
    rw [bkL_len]
    show Calls _ _ #[.agg (polL l (.slice ao hs.length cp)).toArray, _, _] _ _
    have c17 := (Blk.new 24 (polL l (.slice ao hs.length cp)) w).cell 17 _ (polL_hol hl)
    have BB : Hid (Below w.heap.size w (w.alloc (.cells (polL l (.slice ao hs.length cp)).toArray 24))) := below_alloc _ _
    generalize polL l (.slice ao hs.length cp) = cs at *
    generalize hs.length = N at *
    have hsm : ¬ (1000 : Int) < (N : Int) := by omega
    generalize ms.length = N1 at *
    have hbm' : (1000 : Int) < (N1 : Int) := by omega
    go_enter Try.func3, Try.ntmps3
    go_wp2_with fail
    go_ret
    exact ⟨rfl, BB.out⟩
  by_cases hbt : 1000 < ts.length
  · obtain ⟨ao, cp, rfl, -, -, -⟩ := hr
    rw [bkL_len]
    show Calls _ _ #[.agg (polL l (.slice ao hs.length cp)).toArray, _, _] _ _
    have c17 := (Blk.new 24 (polL l (.slice ao hs.length cp)) w).cell 17 _ (polL_hol hl)
    have BB : Hid (Below w.heap.size w (w.alloc (.cells (polL l (.slice ao hs.length cp)).toArray 24))) := below_alloc _ _
    generalize polL l (.slice ao hs.length cp) = cs at *
    generalize hs.length = N at *
    have hsm : ¬ (1000 : Int) < (N : Int) := by omega
    generalize ms.length = N1 at *
    generalize ts.length = N2 at *
    have hbm' : ¬ (1000 : Int) < (N1 : Int) := by omega
    have hbt' : (1000 : Int) < (N2 : Int) := by omega
    go_enter Try.func3, Try.ntmps3
    go_wp2_with fail
    go_ret
    exact ⟨rfl, BB.out⟩
  have hb : hs.length ≤ 1000000 := by omega
  have hsm : ¬ (1000 : Int) < (hs.length : Int) := by omega
  have MD : Hid (∀ w', Below w.heap.size w w' → Calls Try.prog 5 #[PV l s] w' fun e w'' => ∃ v, e = .returned (PV (madeL l) v) ∧ Rd w'' v (bkL (risL 0 64 hs)) ∧ Below w'.heap.size w' w'') := fun w' h => made_any l hs s w' hl ok (hr.later h) hb okh
  have LN : Hid ((madeL l).length = 17) := made_len l
  have GD : Hid (good (madeL l) (risL 0 64 hs) = true) := made_good l hs
  have HB : Hid ((risL 0 64 hs).length ≤ 1000000) := Nat.le_trans (risL_len hs 0 64) (by decide)
  have NU := nums GD.out
  have NS : Hid (Nums (madeL l)) := NU
  clear NU
  have SZ : Hid (∀ t : Value, (Try.prog.info? 24).map (·.size) = some (polL (madeL l) t).length) := fun t => by rw [polL_len LN.out]; exact sizeP
  have SZ0 : Hid (∀ t : Value, (Try.prog.info? 24).map (·.size) = some (polL l t).length) := fun t => by rw [polL_len hl]; exact sizeP
  have FT : Hid (∀ t : Value, 0 + (polL (madeL l) t).length ≤ polZ.length) := fun t => by rw [polL_len LN.out]; exact Nat.le_refl 18
  obtain ⟨ao, cp, rfl, -, -, -⟩ := hr
  rw [bkL_len] at MD ⊢
  show Calls _ _ #[.agg (polL l (.slice ao hs.length cp)).toArray, _, _] _ _
  have PB := Blk.new 24 (polL l (.slice ao hs.length cp)) w
  have c17 := PB.cell 17 _ (polL_hol hl)
  have BP : Hid (Blk w.heap.size 24 (polL l (.slice ao hs.length cp)) (w.alloc (.cells (polL l (.slice ao hs.length cp)).toArray 24))) := PB
  have BB : Hid (Below w.heap.size w (w.alloc (.cells (polL l (.slice ao hs.length cp)).toArray 24))) := below_alloc _ _
  have MI : Hid (∀ k, i64 ((madeL l).getD k 0)) := made_i64 l
  have LA : Hid (∀ (q : Value) (w' : World) (x : Int), i64 x → Rd w' q (bkL (risL 0 64 hs)) → Calls Try.prog 6 #[PV (madeL l) q, .int .i64 x] w' fun e w'' => e = .returned (.int .i64 (lateV (madeL l) x)) ∧ Below w'.heap.size w' w'') := fun q w' x hx h => by
    have := late_at (madeL l) (risL 0 64 hs) q w' LN.out MI.out h HB.out x hx
    rwa [GD.out, if_pos rfl] at this
  have AS : Hid (∀ (q : Value) (w' : World) (x c f : Int), i64 x → Rd w' q (bkL (risL 0 64 hs)) → Calls Try.prog 7 #[PV (madeL l) q, .int .i64 x, .int .i64 c, .int .i64 f] w' fun e w'' => e = .returned (.int .i64 (assV (madeL l) x c f)) ∧ Below w'.heap.size w' w'') := fun q w' x c f hx h => by
    have := assess_at (madeL l) (risL 0 64 hs) q w' LN.out MI.out h HB.out x c f hx
    rwa [GD.out, if_pos rfl] at this
  have CM : Hid (∀ w', Below w.heap.size w w' → ∀ k, k < ms.length → ∃ g o, am = some ⟨g, o, none⟩ ∧ w'.cell? ⟨g, o + k, none⟩ = some (.int .i64 (ms.getD k 0))) := fun w' hb' k hk => by
    obtain ⟨ao', cap', e, _, _, H⟩ := hrm.later hb'
    injection e with e1 _ _
    subst e1
    obtain ⟨g, o, e, _, c⟩ := rd_cells H k hk
    exact ⟨g, o, e, c⟩
  have CT : Hid (∀ w', Below w.heap.size w w' → ∀ k, k < ts.length → ∃ g o, at' = some ⟨g, o, none⟩ ∧ w'.cell? ⟨g, o + k, none⟩ = some (.int .i64 (ts.getD k 0))) := fun w' hb' k hk => by
    obtain ⟨ao', cap', e, _, _, H⟩ := hrt.later hb'
    injection e with e1 _ _
    subst e1
    obtain ⟨g, o, e, _, c⟩ := rd_cells H k hk
    exact ⟨g, o, e, c⟩
  have MX : Hid (∀ k, i64 (ms.getD k 0)) := okm
  clear hrm hrt okm
  clear PB hl hbig ok okh
  generalize madeL l = ml at *
  generalize risL 0 64 hs = R at *
  have hm1 : ¬ (1000 : Int) < (ms.length : Int) := by omega
  have ht1 : ¬ (1000 : Int) < (ts.length : Int) := by omega
  generalize ms.length = N at *
  generalize ts.length = M at *
  go_enter Try.func3, Try.ntmps3
  go_wp2_with (first
  | (refine step_load rfl 24 _ rfl w.heap.size 0 rfl (polL l (.slice ao hs.length cp)) _ (Blk.all BP.out) Try.underlying24 rfl (SZ0.out _) ?_))
  refine (MD.out _ BB.out).mono ?_
  rintro e w1 ⟨v, rfl, rv, b1⟩
  have B1 : Hid (Below w.heap.size w w1) := below_trans BB.out b1
  have R1 : Hid (Rd w1 v (bkL R)) := rv
  have NZ : Hid (Blk w1.heap.size 24 polZ (w1.alloc (.cells #[.int .i64 0, .int .i64 0, .int .i64 0, .int .i64 0, .int .i64 0, .int .i64 0, .int .i64 0, .int .i64 0, .int .i64 0, .int .i64 0, .int .i64 0, .int .i64 0, .int .i64 0, .int .i64 0, .int .i64 0, .int .i64 0, .int .i64 0, .slice none 0 0] 24))) := Blk.new _ _ _
  have OV : Hid (∀ u ∈ polL ml v, u.oneCell' = true) := by
    obtain ⟨a1, c1, rfl, -, -, -⟩ := rv
    exact polL_one
  clear rv b1 c17 MD BP BB SZ0
  obtain ⟨G, hG⟩ : ∃ G, w1.heap.size = G := ⟨_, rfl⟩
  have HG : Hid (w1.heap.size = G) := hG
  clear hG
  go_upto_region 4 with (first
  | ((with_reducible refine at_store ?_); refine step_store rfl 24 _ _ rfl w1.heap.size 0 24 polZ (polL ml v) rfl rfl NZ.out (FT.out _) (SZ.out _) OV.out ?_; intro w2 nb2 g2))
  have S2 : Hid (MS w ml R v w1.heap.size w2) := MS.start LN.out B1.out R1.out nb2 g2
  rw [HG.out] at S2
  try rw [HG.out]
  clear nb2 g2 NZ R1 B1 OV FT
  have hu := Try.underlying24
  have hi := SZ.out v
  have LNl := LN.out
  have C5 : Hid (∀ w', MS w ml R v G w' → w'.cell? ⟨G, 5, none⟩ = some (.int .i64 (ml.getD 5 0)) ∧ w'.cell? ⟨G, 7, none⟩ = some (.int .i64 (ml.getD 7 0)) ∧ w'.cell? ⟨G, 8, none⟩ = some (.int .i64 (ml.getD 8 0))) := fun w' h => ⟨h.cell LN.out 5 (by omega), h.cell LN.out 7 (by omega), h.cell LN.out 8 (by omega)⟩
  obtain ⟨n7, m7⟩ := NS.out.cyc
  obtain ⟨n8, m8⟩ := NS.out.life
  have LI : Hid (∀ a, 0 ≤ lateV ml a ∧ lateV ml a ≤ 1000000000 ∧ (0 ≤ a → ml.getD 5 0 ≤ lateV ml a)) := fun a => late_in NS.out a
  have AI : Hid (∀ a c f : Int, 0 ≤ c → c ≤ ml.getD 7 0 → 0 ≤ f → f ≤ ml.getD 8 0 → 0 ≤ assV ml a c f ∧ assV ml a c f ≤ lateV ml a ∧ c + assV ml a c f ≤ ml.getD 7 0 ∧ f + assV ml a c f ≤ ml.getD 8 0 ∧ (assV ml a c f < lateV ml a → c + assV ml a c f = ml.getD 7 0 ∨ f + assV ml a c f = ml.getD 8 0)) := fun a c f h1 h2 h3 h4 => ass_in NS.out a c f h1 h2 h3 h4
  generalize ml.getD 5 0 = lo at *
  generalize ml.getD 7 0 = c7 at *
  generalize ml.getD 8 0 = c8 at *
  clear NS GD HB MI
  go_wp2_with fail
  go_loopw [8, 9, 10, 11, 12, 13] (fun vc vf vk _ _ _ wr => ∃ (k : Nat) (c f : Int), vk = .int .i64 (k : Int) ∧ k ≤ N ∧ vc = .int .i64 c ∧ 0 ≤ c ∧ c ≤ c7 ∧ vf = .int .i64 f ∧ 0 ≤ f ∧ f ≤ c8 ∧ Hid (MS w ml R v G wr)) (fun _ _ vk _ _ _ _ => N - (intOf vk).toNat)
  case atStart => exact ⟨0, 0, 0, rfl, by omega, rfl, by omega, by omega, rfl, by omega, by omega, S2.out⟩
  case round =>
    obtain ⟨k, c, f, rfl, hk, rfl, hc0, hc1, rfl, hf0, hf1, S3⟩ := hrel
    by_cases hlt : (k : Int) < (N : Int)
    · go_wp2_with fail
      go_loopw [8, 11] (fun vc vj wr' => ∃ (j : Nat) (d : Int), vj = .int .i64 (j : Int) ∧ j ≤ M ∧ vc = .int .i64 d ∧ 0 ≤ d ∧ d ≤ c7 ∧ wr' = wr) (fun _ vj _ => M - (intOf vj).toNat)
      case atStart => exact ⟨0, c, rfl, by omega, rfl, hc0, hc1, rfl⟩
      case round =>
        obtain ⟨j, d, rfl, hj, rfl, hd0, hd1, rfl⟩ := hrel
        by_cases hjl : (j : Int) < (M : Int)
        · obtain ⟨g, o, rfl, c0⟩ := CT.out _ S3.out.bb j (by omega)
          generalize ts.getD j 0 = t at *
          by_cases ht : (t == (k : Int)) = true
          · go_wp2_with fail
            go_roundw
            case rel => exact ⟨j + 1, 0, by go_num, by omega, rfl, by omega, by omega, trivial⟩
            case measure => simp [intOf]; omega
          · have ht' : (t == (k : Int)) = false := by simpa using ht
            clear ht
            go_wp2_with fail
            go_roundw
            case rel => exact ⟨j + 1, d, by go_num, by omega, rfl, by omega, by omega, trivial⟩
            case measure => simp [intOf]; omega
        · clear CT
          obtain ⟨g, o, rfl, -⟩ := CM.out _ S3.out.bb k (by omega)
          have CX : Hid (∀ w', MS w ml R v G w' → w'.cell? ⟨g, o + k, none⟩ = some (.int .i64 (ms.getD k 0))) := fun w' h => by
            obtain ⟨g', o', e, cc⟩ := CM.out _ h.bb k (by omega)
            injection e with e
            injection e with e1 e2
            subst e1 e2
            exact cc
          have XI := MX.out k
          generalize ms.getD k 0 = x at *
          have LF : Hid (∀ (q : Value) (w' : World), Rd w' q (bkL R) → Calls Try.prog 6 #[PV ml q, .int .i64 x] w' fun e w'' => e = .returned (.int .i64 (lateV ml x)) ∧ Below w'.heap.size w' w'') := fun q w' h => LA.out q w' x XI h
          have AF : Hid (∀ (q : Value) (w' : World), Rd w' q (bkL R) → Calls Try.prog 7 #[PV ml q, .int .i64 x, .int .i64 d, .int .i64 f] w' fun e w'' => e = .returned (.int .i64 (assV ml x d f)) ∧ Below w'.heap.size w' w'') := fun q w' h => AS.out q w' x d f XI h
          obtain ⟨l1, l2, l3⟩ := LI.out x
          obtain ⟨p1, p2, p3, p4, p5⟩ := AI.out x d f hd0 hd1 hf0 hf1
          have L3 : Hid (0 ≤ x → lo ≤ lateV ml x) := l3
          have P5 : Hid (assV ml x d f < lateV ml x → d + assV ml x d f = c7 ∨ f + assV ml x d f = c8) := p5
          clear l3 p5 CM MX LI AI LA AS XI
          generalize assV ml x d f = fee at *
          generalize lateV ml x = full at *
          go_upto_region 14 with fail
          refine wp_region_held_drew (S := fun w' => MS w ml R v G w') (by kernel_rfl) (S3.out.drewN 1) (fun hH => ?_)
          refine wpAnyH_take (i := 0) (oi := { dst := some 48, op := Op.load 24 (Operand.tmp 7), type := 24, pos := "outright.go:190", after := #[], guard := none }) (v := .agg (polL ml v).toArray) rfl (by kernel_rfl) (by kernel_rfl) (by kernel_rfl) (fun _ _ _ h => h) (yieldsIf_load_mid (by rfl) _ _ rfl G 0 rfl (polL ml v) _ (fun w' h => h.q.all) hu rfl hi) hH ?_
          try simp only [Act.put, List.setIfInBounds_toArray, List.set_cons_zero, List.set_cons_succ]
          refine wpAnyH_take (i := 1) (oi := { dst := some 49, op := Op.move (Operand.tmp 1), type := 25, pos := "outright.go:190", after := #[], guard := none }) (v := .slice (some ⟨g, o, none⟩) N cm) rfl (by kernel_rfl) (by kernel_rfl) (by kernel_rfl) (fun _ _ _ h => h) (Or.inl ⟨by rfl, fun w' h => by go_simp⟩) hH ?_
          try simp only [Act.put, List.setIfInBounds_toArray, List.set_cons_zero, List.set_cons_succ]
          refine wpAnyH_take (i := 2) (oi := { dst := some 50, op := Op.move (Operand.tmp 10), type := 3, pos := "outright.go:190", after := #[], guard := none }) (v := .int .i64 (k : Int)) rfl (by kernel_rfl) (by kernel_rfl) (by kernel_rfl) (fun _ _ _ h => h) (Or.inl ⟨by rfl, fun w' h => by go_simp⟩) hH ?_
          try simp only [Act.put, List.setIfInBounds_toArray, List.set_cons_zero, List.set_cons_succ]
          refine wpAnyH_take (i := 3) (oi := { dst := some 51, op := Op.indexAddr 25 (Operand.tmp 49) (Operand.tmp 50), type := 0, pos := "outright.go:190", after := #[{ on := 1, ground := Ground.data }, { on := 2, ground := Ground.data }], guard := none }) (v := .pointer (some ⟨g, o + k, none⟩)) rfl (by kernel_rfl) (by kernel_rfl) (by kernel_rfl) (fun _ _ _ h => h) (Or.inl ⟨by rfl, fun w' h => by go_simp⟩) hH ?_
          try simp only [Act.put, List.setIfInBounds_toArray, List.set_cons_zero, List.set_cons_succ]
          refine wpAnyH_take (i := 4) (oi := { dst := some 52, op := Op.load 2 (Operand.tmp 51), type := 2, pos := "outright.go:190", after := #[{ on := 3, ground := Ground.data }], guard := none }) (v := .int .i64 x) rfl (by kernel_rfl) (by kernel_rfl) (by kernel_rfl) (fun _ _ _ h => h) (Or.inl ⟨by rfl, fun w' h => by have c := CX.out w' h; go_simp⟩) hH ?_
          try simp only [Act.put, List.setIfInBounds_toArray, List.set_cons_zero, List.set_cons_succ]
          refine wpAnyH_ready (rs := [5]) (by kernel_rfl) (by simp) ?_
          refine AllReadyH.cons (o := { dst := some 53, op := Op.call { callee := Callee.value (Operand.func 6), args := #[Operand.tmp 48, Operand.tmp 52], argTypes := #[24, 2] }, type := 2, pos := "outright.go:190", after := #[{ on := 0, ground := Ground.data }, { on := 4, ground := Ground.data }], guard := none }) rfl (fun K hK => ?_) AllReadyH.nil
          go_simp
          refine (LF.out _ _ hH.r).mono ?_
          rintro e w3 ⟨rfl, b3⟩
          refine hK.out _ _ (hH.later b3) (fun hH => ?_)
          try simp only [Act.put, List.setIfInBounds_toArray, List.set_cons_zero, List.set_cons_succ]
          refine wpAnyH_take (i := 6) (oi := { dst := some 12, op := Op.assign (Operand.tmp 53), type := 2, pos := "outright.go:190", after := #[{ on := 5, ground := Ground.data }, { on := 5, ground := Ground.chain }, { on := 0, ground := Ground.phase }, { on := 1, ground := Ground.phase }, { on := 2, ground := Ground.phase }, { on := 3, ground := Ground.phase }, { on := 4, ground := Ground.phase }, { on := 5, ground := Ground.phase }], guard := none }) (v := .int .i64 full) rfl (by kernel_rfl) (by kernel_rfl) (by kernel_rfl) (fun _ _ _ h => h) (Or.inl ⟨by rfl, fun w' h => by go_simp⟩) hH ?_
          try simp only [Act.put, List.setIfInBounds_toArray, List.set_cons_zero, List.set_cons_succ]
          refine wpAnyH_done (by kernel_rfl) ?_ _
          have S4 : Hid (MS w ml R v G w3) := hH
          clear hH hK
          go_upto_region 15 with fail
          refine wp_region_held_drew (S := fun w' => MS w ml R v G w') (by kernel_rfl) (S4.out.drewN 1) (fun hH => ?_)
          refine wpAnyH_take (i := 0) (oi := { dst := some 54, op := Op.load 24 (Operand.tmp 7), type := 24, pos := "outright.go:191", after := #[], guard := none }) (v := .agg (polL ml v).toArray) rfl (by kernel_rfl) (by kernel_rfl) (by kernel_rfl) (fun _ _ _ h => h) (yieldsIf_load_mid (by rfl) _ _ rfl G 0 rfl (polL ml v) _ (fun w' h => h.q.all) hu rfl hi) hH ?_
          try simp only [Act.put, List.setIfInBounds_toArray, List.set_cons_zero, List.set_cons_succ]
          refine wpAnyH_take (i := 1) (oi := { dst := some 55, op := Op.move (Operand.tmp 1), type := 25, pos := "outright.go:191", after := #[], guard := none }) (v := .slice (some ⟨g, o, none⟩) N cm) rfl (by kernel_rfl) (by kernel_rfl) (by kernel_rfl) (fun _ _ _ h => h) (Or.inl ⟨by rfl, fun w' h => by go_simp⟩) hH ?_
          try simp only [Act.put, List.setIfInBounds_toArray, List.set_cons_zero, List.set_cons_succ]
          refine wpAnyH_take (i := 2) (oi := { dst := some 56, op := Op.move (Operand.tmp 10), type := 3, pos := "outright.go:191", after := #[], guard := none }) (v := .int .i64 (k : Int)) rfl (by kernel_rfl) (by kernel_rfl) (by kernel_rfl) (fun _ _ _ h => h) (Or.inl ⟨by rfl, fun w' h => by go_simp⟩) hH ?_
          try simp only [Act.put, List.setIfInBounds_toArray, List.set_cons_zero, List.set_cons_succ]
          refine wpAnyH_take (i := 3) (oi := { dst := some 57, op := Op.indexAddr 25 (Operand.tmp 55) (Operand.tmp 56), type := 0, pos := "outright.go:191", after := #[{ on := 1, ground := Ground.data }, { on := 2, ground := Ground.data }], guard := none }) (v := .pointer (some ⟨g, o + k, none⟩)) rfl (by kernel_rfl) (by kernel_rfl) (by kernel_rfl) (fun _ _ _ h => h) (Or.inl ⟨by rfl, fun w' h => by go_simp⟩) hH ?_
          try simp only [Act.put, List.setIfInBounds_toArray, List.set_cons_zero, List.set_cons_succ]
          refine wpAnyH_take (i := 4) (oi := { dst := some 58, op := Op.load 2 (Operand.tmp 57), type := 2, pos := "outright.go:191", after := #[{ on := 3, ground := Ground.data }], guard := none }) (v := .int .i64 x) rfl (by kernel_rfl) (by kernel_rfl) (by kernel_rfl) (fun _ _ _ h => h) (Or.inl ⟨by rfl, fun w' h => by have c := CX.out w' h; go_simp⟩) hH ?_
          try simp only [Act.put, List.setIfInBounds_toArray, List.set_cons_zero, List.set_cons_succ]
          refine wpAnyH_take (i := 5) (oi := { dst := some 59, op := Op.move (Operand.tmp 8), type := 2, pos := "outright.go:191", after := #[], guard := none }) (v := .int .i64 d) rfl (by kernel_rfl) (by kernel_rfl) (by kernel_rfl) (fun _ _ _ h => h) (Or.inl ⟨by rfl, fun w' h => by go_simp⟩) hH ?_
          try simp only [Act.put, List.setIfInBounds_toArray, List.set_cons_zero, List.set_cons_succ]
          refine wpAnyH_take (i := 6) (oi := { dst := some 60, op := Op.move (Operand.tmp 9), type := 2, pos := "outright.go:191", after := #[], guard := none }) (v := .int .i64 f) rfl (by kernel_rfl) (by kernel_rfl) (by kernel_rfl) (fun _ _ _ h => h) (Or.inl ⟨by rfl, fun w' h => by go_simp⟩) hH ?_
          try simp only [Act.put, List.setIfInBounds_toArray, List.set_cons_zero, List.set_cons_succ]
          refine wpAnyH_ready (rs := [7]) (by kernel_rfl) (by simp) ?_
          refine AllReadyH.cons (o := { dst := some 61, op := Op.call { callee := Callee.value (Operand.func 7), args := #[Operand.tmp 54, Operand.tmp 58, Operand.tmp 59, Operand.tmp 60], argTypes := #[24, 2, 2, 2] }, type := 2, pos := "outright.go:191", after := #[{ on := 0, ground := Ground.data }, { on := 4, ground := Ground.data }, { on := 5, ground := Ground.data }, { on := 6, ground := Ground.data }], guard := none }) rfl (fun K hK => ?_) AllReadyH.nil
          go_simp
          refine (AF.out _ _ hH.r).mono ?_
          rintro e w4 ⟨rfl, b4⟩
          refine hK.out _ _ (hH.later b4) (fun hH => ?_)
          try simp only [Act.put, List.setIfInBounds_toArray, List.set_cons_zero, List.set_cons_succ]
          refine wpAnyH_take (i := 8) (oi := { dst := some 13, op := Op.assign (Operand.tmp 61), type := 2, pos := "outright.go:191", after := #[{ on := 7, ground := Ground.data }, { on := 7, ground := Ground.chain }, { on := 0, ground := Ground.phase }, { on := 1, ground := Ground.phase }, { on := 2, ground := Ground.phase }, { on := 3, ground := Ground.phase }, { on := 4, ground := Ground.phase }, { on := 5, ground := Ground.phase }, { on := 6, ground := Ground.phase }, { on := 7, ground := Ground.phase }], guard := none }) (v := .int .i64 fee) rfl (by kernel_rfl) (by kernel_rfl) (by kernel_rfl) (fun _ _ _ h => h) (Or.inl ⟨by rfl, fun w' h => by go_simp⟩) hH ?_
          try simp only [Act.put, List.setIfInBounds_toArray, List.set_cons_zero, List.set_cons_succ]
          refine wpAnyH_done (by kernel_rfl) ?_ _
          have S5 : Hid (MS w ml R v G w4) := hH
          clear hH hK
          obtain ⟨q5, q7, q8⟩ := C5.out _ S5.out
          have qx := CX.out _ S5.out
          clear CX C5 LF AF
          by_cases hx : 0 ≤ x
          · have hlo := L3.out hx
            by_cases hff : fee < full
            · by_cases e7 : d + fee = c7
              · have e7' : (d + fee != c7) = false := by rw [e7]; simp
                have E7 : Hid (d + fee = c7) := e7
                clear e7
                go_wp2_with fail
                go_roundw
                case rel => exact ⟨k + 1, d + fee, f + fee, by go_num, by omega, rfl, by omega, by omega, rfl, by omega, by omega, S5.out⟩
                case measure => simp [intOf]; omega
              · have e8 : f + fee = c8 := by rcases P5.out hff with h | h; exact absurd h e7; exact h
                have e7' : (d + fee != c7) = true := bne_iff_ne.2 e7
                have e8' : (f + fee != c8) = false := by rw [e8]; simp
                have E8 : Hid (f + fee = c8) := e8
                clear e8 e7
                go_wp2_with fail
                go_roundw
                case rel => exact ⟨k + 1, d + fee, f + fee, by go_num, by omega, rfl, by omega, by omega, rfl, by omega, by omega, S5.out⟩
                case measure => simp [intOf]; omega
            · go_wp2_with fail
              go_roundw
              case rel => exact ⟨k + 1, d + fee, f + fee, by go_num, by omega, rfl, by omega, by omega, rfl, by omega, by omega, S5.out⟩
              case measure => simp [intOf]; omega
          · by_cases hff : fee < full
            · by_cases e7 : d + fee = c7
              · have e7' : (d + fee != c7) = false := by rw [e7]; simp
                have E7 : Hid (d + fee = c7) := e7
                clear e7
                go_wp2_with fail
                go_roundw
                case rel => exact ⟨k + 1, d + fee, f + fee, by go_num, by omega, rfl, by omega, by omega, rfl, by omega, by omega, S5.out⟩
                case measure => simp [intOf]; omega
              · have e8 : f + fee = c8 := by rcases P5.out hff with h | h; exact absurd h e7; exact h
                have e7' : (d + fee != c7) = true := bne_iff_ne.2 e7
                have e8' : (f + fee != c8) = false := by rw [e8]; simp
                have E8 : Hid (f + fee = c8) := e8
                clear e8 e7
                go_wp2_with fail
                go_roundw
                case rel => exact ⟨k + 1, d + fee, f + fee, by go_num, by omega, rfl, by omega, by omega, rfl, by omega, by omega, S5.out⟩
                case measure => simp [intOf]; omega
            · go_wp2_with fail
              go_roundw
              case rel => exact ⟨k + 1, d + fee, f + fee, by go_num, by omega, rfl, by omega, by omega, rfl, by omega, by omega, S5.out⟩
              case measure => simp [intOf]; omega
    · obtain rfl : k = N := by omega
      go_wp2_with fail
      go_ret
      exact ⟨rfl, S3.out.bb⟩
end Go.Proofs.Ytcjmjbhbdojeiab
