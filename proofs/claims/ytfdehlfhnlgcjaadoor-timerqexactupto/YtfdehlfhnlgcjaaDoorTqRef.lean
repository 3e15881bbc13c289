/-
  Ours: the document's answer for timerq: same, Before, Get, with, without.
-/
import Derived.Test.YtfdehlfhnlgcjaaDoorTqIt
namespace Go.Proofs.YtfdehlfhnlgcjaaDoor
open Go.RowKit TqM

set_option maxRecDepth 20000 in
set_option maxHeartbeats 2000000 in
theorem rsame_at (a b : Ky) (w : World) : Calls Tryd.prog 49 #[kyV a, kyV b] w fun e w' => e = .returned (.bool (decide (a = b))) ∧ Below w.heap.size w w' := by
  have BB : Hid (Below w.heap.size w ((w.alloc (.cells #[.int .i64 a.d, .int .i64 a.l, .int .i64 a.n] 24)).alloc (.cells #[.int .i64 b.d, .int .i64 b.l, .int .i64 b.n] 24))) := below_trans (below_alloc _ _) (below_alloc _ _)
  obtain ⟨r, hr⟩ : ∃ r, decide (a = b) = r := ⟨_, rfl⟩
  have HR : Hid (r = decide (a.d = b.d ∧ a.l = b.l ∧ a.n = b.n)) := by show _ = _; rw [← hr]; exact decide_eq_decide.2 (ky_eq a b)
  rw [hr]
  clear hr
  by_cases h0 : a.d = b.d
  · have e0 : (a.d == b.d) = true := by simpa using h0
    by_cases h1 : a.l = b.l
    · have e1 : (a.l == b.l) = true := by simpa using h1
      by_cases h2 : a.n = b.n
      · have e2 : (a.n == b.n) = true := by simpa using h2
        have hh : r = true := HR.out.trans (decide_eq_true ⟨h0, h1, h2⟩)
        subst hh
        clear HR h0 h1 h2
        go_enter Tryd.func49, Tryd.ntmps49
        go_wp2_with fail
        go_ret
        exact ⟨rfl, BB.out⟩
      · have e2 : (a.n == b.n) = false := by simpa using h2
        have hh : r = false := HR.out.trans (decide_eq_false (fun h => h2 h.2.2))
        subst hh
        clear HR h0 h1 h2
        go_enter Tryd.func49, Tryd.ntmps49
        go_wp2_with fail
        go_ret
        exact ⟨rfl, BB.out⟩
    · have e1 : (a.l == b.l) = false := by simpa using h1
      have hh : r = false := HR.out.trans (decide_eq_false (fun h => h1 h.2.1))
      subst hh
      clear HR h0 h1
      go_enter Tryd.func49, Tryd.ntmps49
      go_wp2_with fail
      go_ret
      exact ⟨rfl, BB.out⟩
  · have e0 : (a.d == b.d) = false := by simpa using h0
    have hh : r = false := HR.out.trans (decide_eq_false (fun h => h0 h.1))
    subst hh
    clear HR h0
    go_enter Tryd.func49, Tryd.ntmps49
    go_wp2_with fail
    go_ret
    exact ⟨rfl, BB.out⟩

set_option maxRecDepth 20000 in
set_option maxHeartbeats 2000000 in
theorem rbefore_at (a b : Ky) (w : World) : Calls Tryd.prog 50 #[kyV a, kyV b] w fun e w' => e = .returned (.bool (decide (TqM.lt a b))) ∧ Below w.heap.size w w' := by
  have BB : Hid (Below w.heap.size w ((w.alloc (.cells #[.int .i64 a.d, .int .i64 a.l, .int .i64 a.n] 24)).alloc (.cells #[.int .i64 b.d, .int .i64 b.l, .int .i64 b.n] 24))) := below_trans (below_alloc _ _) (below_alloc _ _)
  by_cases h0 : a.d = b.d
  · have e0 : (a.d != b.d) = false := by simpa using h0
    by_cases h1 : a.l = b.l
    · have e1 : (a.l != b.l) = false := by simpa using h1
      have hh : decide (TqM.lt a b) = decide (a.n < b.n) := by unfold TqM.lt; exact decide_eq_decide.2 (by omega)
      rw [hh]
      clear h0 h1 hh
      go_enter Tryd.func50, Tryd.ntmps50
      go_wp2_with fail
      go_ret
      exact ⟨rfl, BB.out⟩
    · have e1 : (a.l != b.l) = true := by simpa using h1
      have hh : decide (TqM.lt a b) = decide (a.l < b.l) := by unfold TqM.lt; exact decide_eq_decide.2 (by omega)
      rw [hh]
      clear h0 h1 hh
      go_enter Tryd.func50, Tryd.ntmps50
      go_wp2_with fail
      go_ret
      exact ⟨rfl, BB.out⟩
  · have e0 : (a.d != b.d) = true := by simpa using h0
    have hh : decide (TqM.lt a b) = decide (a.d < b.d) := by unfold TqM.lt; exact decide_eq_decide.2 (by omega)
    rw [hh]
    clear h0 hh
    go_enter Tryd.func50, Tryd.ntmps50
    go_wp2_with fail
    go_ret
    exact ⟨rfl, BB.out⟩

/-- Two keys, each where it lies. -/
abbrev K7r (w : World) (g o h p : Nat) (x k : Ky) (w' : World) : Prop := Below w.heap.size w w' ∧
  w'.cell? ⟨g, o, none⟩ = some (.int .i64 x.d) ∧ w'.cell? ⟨g, o + 1, none⟩ = some (.int .i64 x.l) ∧ w'.cell? ⟨g, o + 2, none⟩ = some (.int .i64 x.n) ∧
  w'.cell? ⟨h, p, none⟩ = some (.int .i64 k.d) ∧ w'.cell? ⟨h, p + 1, none⟩ = some (.int .i64 k.l) ∧ w'.cell? ⟨h, p + 2, none⟩ = some (.int .i64 k.n)
theorem K7r.keep {w w1 w2 : World} {g o h p : Nat} {x k : Ky} (b : Below w1.heap.size w1 w2) (c : K7r w g o h p x k w1) : K7r w g o h p x k w2 :=
  ⟨below_trans c.1 b, below_cell b c.2.1, below_cell b c.2.2.1, below_cell b c.2.2.2.1, below_cell b c.2.2.2.2.1, below_cell b c.2.2.2.2.2.1, below_cell b c.2.2.2.2.2.2⟩
theorem RdI.cells {w : World} {ao : Option Addr} {n cap : Nat} {es : List (Ky × Int)} (h : RdI w (.slice ao n cap) es) {i : Nat} (hi : i < n) : ∃ g o, ao = some ⟨g, o, none⟩ ∧ w.cell? ⟨g, o + i * 4, none⟩ = some (.int .i64 (gN es i).1.d) ∧ w.cell? ⟨g, o + i * 4 + 1, none⟩ = some (.int .i64 (gN es i).1.l) ∧ w.cell? ⟨g, o + i * 4 + 2, none⟩ = some (.int .i64 (gN es i).1.n) ∧ w.cell? ⟨g, o + i * 4 + 3, none⟩ = some (.int .i64 (gN es i).2) := by
  obtain ⟨ao', cap', e, _, _, H⟩ := h
  injection e with e1 e2 e3
  subst e1 e2
  obtain ⟨g, o, e, _, r⟩ := H i hi
  exact ⟨g, o, e, r 0 _ rfl, r 1 _ rfl, r 2 _ rfl, r 3 _ rfl⟩

set_option maxRecDepth 20000 in
set_option maxHeartbeats 2000000 in
theorem rget_at (G : List (Ky × Int)) (v : Value) (k : Ky) (w : World) (hl : G.length ≤ 1000000000) (h : RdI w v G) (x : Int) (b : Bool) (hx : (b = false ∧ x = 0 ∧ k ∉ G.map (·.1)) ∨ (b = true ∧ (k, x) ∈ G ∧ (G.map (·.1)).Nodup)) :
    Calls Tryd.prog 26 #[v, kyV k] w fun e w' => e = .returned (.tuple #[.int .i64 x, .bool b]) ∧ Below w.heap.size w w' := by
  have RD : Hid (∀ w', Below w.heap.size w w' → RdI w' v G) := fun w' hb => h.later hb
  obtain ⟨ao, cap, rfl, hcap, -, -⟩ := h
  have SA : Hid (∀ (a b : Ky) (w : World), Calls Tryd.prog 49 #[.agg #[.int .i64 a.d, .int .i64 a.l, .int .i64 a.n], .agg #[.int .i64 b.d, .int .i64 b.l, .int .i64 b.n]] w fun e w' => e = .returned (.bool (decide (a = b))) ∧ Below w.heap.size w w') := rsame_at
  obtain ⟨n, hn⟩ : ∃ n, G.length = n := ⟨_, rfl⟩
  have ANS : Hid ((∀ i, i < n → (gN G i).1 = k → x = (gN G i).2 ∧ b = true) ∧ ((∀ i, i < n → (gN G i).1 ≠ k) → x = 0 ∧ b = false)) := by
    refine ⟨fun i hi e => ?_, fun hno => ?_⟩
    · have hm : gN G i ∈ G := by rw [gN_at (by omega)]; exact List.getElem_mem _
      rcases hx with ⟨_, _, h1⟩ | ⟨h1, h2, h3⟩
      · exact absurd (List.mem_map.2 ⟨_, hm, e⟩) h1
      · refine ⟨?_, h1⟩
        obtain ⟨j, hj, ej⟩ := List.getElem_of_mem h2
        have hi' : i < G.length := by omega
        have : j = i := by
          have h4 : (G.map (·.1))[j]'(by simpa using hj) = (G.map (·.1))[i]'(by simpa using hi') := by
            simp only [List.getElem_map]
            rw [ej, ← gN_at hi', e]
          exact (List.getElem_inj h3).1 h4
        subst this
        rw [gN_at hi', ej]
    · rcases hx with ⟨h1, h2, _⟩ | ⟨_, h2, _⟩
      · exact ⟨h2, h1⟩
      · obtain ⟨j, hj, ej⟩ := List.getElem_of_mem h2
        exact absurd (by rw [gN_at hj, ej]) (hno j (by omega))
  rw [hn] at hcap hl RD ⊢
  have B0 : Hid (Blk w.heap.size 24 (kyL k) (w.alloc (.cells #[.int .i64 k.d, .int .i64 k.l, .int .i64 k.n] 24)) ∧ Below w.heap.size w (w.alloc (.cells #[.int .i64 k.d, .int .i64 k.l, .int .i64 k.n] 24))) := ⟨Blk.new 24 (kyL k) w, below_alloc _ _⟩
  clear hx hn
  go_enter Tryd.func26, Tryd.ntmps26
  go_wp2_with fail
  generalize w.alloc (.cells #[.int .i64 k.d, .int .i64 k.l, .int .i64 k.n] 24) = w1 at *
  go_loopw [6] (fun vi wr => ∃ i : Nat, vi = .int .i64 (i : Int) ∧ i ≤ n ∧ Hid (Blk w.heap.size 24 (kyL k) wr ∧ Below w.heap.size w wr ∧ ∀ j, j < i → (gN G j).1 ≠ k)) (fun vi _ => n - (intOf vi).toNat)
  case atStart => exact ⟨0, rfl, by omega, B0.out.1, B0.out.2, fun j hj => by omega⟩
  case round =>
    obtain ⟨i, rfl, hi, D⟩ := hrel
    clear B0
    by_cases hlt : (i : Int) < (n : Int)
    · have hin : i < n := by omega
      obtain ⟨g, o, rfl, y0, y1, y2, y3⟩ := RdI.cells (RD.out wr D.out.2.1) hin
      have S0 : Hid (K7r wr g (o + i * 4) w.heap.size 0 (gN G i).1 k wr.drew) := ⟨Below.drew (Below.refl _ _), y0, y1, y2, D.out.1.cell 0 _ rfl, D.out.1.cell 1 _ rfl, D.out.1.cell 2 _ rfl⟩
      have Y3 : Hid (∀ w', Below wr.heap.size wr w' → w'.cell? ⟨g, o + i * 4 + 3, none⟩ = some (.int .i64 (gN G i).2)) := fun w' b => below_cell b y3
      have SAi : Hid (∀ w, Calls Tryd.prog 49 #[.agg #[.int .i64 (gN G i).1.d, .int .i64 (gN G i).1.l, .int .i64 (gN G i).1.n], .agg #[.int .i64 k.d, .int .i64 k.l, .int .i64 k.n]] w fun e w' => e = .returned (.bool (decide ((gN G i).1 = k))) ∧ Below w.heap.size w w') := fun w => SA.out _ _ w
      clear y0 y1 y2 y3
      by_cases hs : (gN G i).1 = k
      · obtain ⟨hx, hb⟩ := ANS.out.1 i hin hs
        rw [decide_eq_true hs] at SAi
        clear hs
        generalize (gN G i).1 = z at *
        rw [← hx] at Y3
        subst hb
        clear hx ANS
        go_upto_region 4 with fail
        go_region_held3 (fun w' => K7r wr g (o + i * 4) w.heap.size 0 z k w') (first | assumption | exact S0.out | exact K7r.keep hU (by assumption)) (first
          | (go_at_call 49; refine (SAi.out _).mono ?_; rintro e w6 ⟨rfl, hU⟩))
        have b6 : Below wr.heap.size wr w6 := And.left (show K7r wr g (o + i * 4) w.heap.size 0 z k w6 by assumption)
        have y3 := Y3.out w6 b6
        have F6 : Hid (Below w.heap.size w w6) := below_trans D.out.2.1 b6
        clear D b6 hU S0 SAi Y3
        go_wp2_with fail
        go_ret2
        exact ⟨rfl, F6.out⟩
      · rw [decide_eq_false hs] at SAi
        have HS : Hid ((gN G i).1 ≠ k) := hs
        clear hs
        obtain ⟨z, hz⟩ : ∃ z, (gN G i).1 = z := ⟨_, rfl⟩
        rw [hz] at S0 SAi
        clear hz
        go_upto_region 4 with fail
        go_region_held3 (fun w' => K7r wr g (o + i * 4) w.heap.size 0 z k w') (first | assumption | exact S0.out | exact K7r.keep hU (by assumption)) (first
          | (go_at_call 49; refine (SAi.out _).mono ?_; rintro e w6 ⟨rfl, hU⟩))
        have b6 : Below wr.heap.size wr w6 := And.left (show K7r wr g (o + i * 4) w.heap.size 0 z k w6 by assumption)
        have D6 : Hid (Blk w.heap.size 24 (kyL k) w6 ∧ Below w.heap.size w w6 ∧ ∀ j, j < i + 1 → (gN G j).1 ≠ k) := ⟨D.out.1.below b6, below_trans D.out.2.1 b6, fun j hj => by
          by_cases e : j = i
          · rw [e]; exact HS.out
          · exact D.out.2.2 j (by omega)⟩
        clear D b6 hU S0 SAi Y3
        go_wp2_with fail
        go_roundw
        case rel => exact ⟨i + 1, by go_num, by omega, D6.out⟩
        case measure => simp [intOf]; omega
    · have ei : i = n := by omega
      subst ei
      obtain ⟨rfl, rfl⟩ := ANS.out.2 D.out.2.2
      have F6 : Hid (Below w.heap.size w wr) := D.out.2.1
      clear D ANS
      go_wp2_with fail
      go_ret2
      exact ⟨rfl, F6.out⟩

set_option maxRecDepth 20000 in
set_option maxHeartbeats 2000000 in
theorem rwithout_at (G : List (Ky × Int)) (v : Value) (k : Ky) (w : World) (hl : G.length ≤ 1000000000) (h : RdI w v G) :
    Calls Tryd.prog 33 #[v, kyV k] w fun e w' => ∃ v', e = .returned v' ∧ RowI w.heap.size w' v' (G.filter (fun x => !decide (x.1 = k))) ∧ Below w.heap.size w w' := by
  have RD : Hid (∀ w', Below w.heap.size w w' → RdI w' v G) := fun w' hb => h.later hb
  obtain ⟨ao, cap, rfl, hcap, -, -⟩ := h
  have SA : Hid (∀ (a b : Ky) (w : World), Calls Tryd.prog 49 #[.agg #[.int .i64 a.d, .int .i64 a.l, .int .i64 a.n], .agg #[.int .i64 b.d, .int .i64 b.l, .int .i64 b.n]] w fun e w' => e = .returned (.bool (decide (a = b))) ∧ Below w.heap.size w w') := rsame_at
  obtain ⟨n, hn⟩ : ∃ n, G.length = n := ⟨_, rfl⟩
  have HN : Hid (G.length = n) := hn
  rw [hn] at hcap hl RD ⊢
  have B0 : Hid (Blk w.heap.size 24 (kyL k) (w.alloc (.cells #[.int .i64 k.d, .int .i64 k.l, .int .i64 k.n] 24)) ∧ Below w.heap.size w (w.alloc (.cells #[.int .i64 k.d, .int .i64 k.l, .int .i64 k.n] 24)) ∧ w.heap.size < (w.alloc (.cells #[.int .i64 k.d, .int .i64 k.l, .int .i64 k.n] 24)).heap.size) := ⟨Blk.new 24 (kyL k) w, below_alloc _ _, by simp⟩
  clear hn
  go_enter Tryd.func33, Tryd.ntmps33
  go_wp2_with fail
  generalize w.alloc (.cells #[.int .i64 k.d, .int .i64 k.l, .int .i64 k.n] 24) = w1 at *
  go_loopw [5, 6] (fun vl vi wr => ∃ i : Nat, vi = .int .i64 (i : Int) ∧ i ≤ n ∧ Hid (Blk w.heap.size 24 (kyL k) wr ∧ Below w.heap.size w wr ∧ RowI (w.heap.size + 1) wr vl ((G.take i).filter (fun x => !decide (x.1 = k))))) (fun _ vi _ => n - (intOf vi).toNat)
  case atStart => exact ⟨0, rfl, by omega, B0.out.1, B0.out.2.1, by simpa using RowI.nil _ _⟩
  case round =>
    obtain ⟨i, rfl, hi, D⟩ := hrel
    clear B0
    by_cases hlt : (i : Int) < (n : Int)
    · have hin : i < n := by omega
      obtain ⟨g, o, rfl, y0, y1, y2, y3⟩ := RdI.cells (RD.out wr D.out.2.1) hin
      have TK : Hid ((G.take (i + 1)).filter (fun x => !decide (x.1 = k)) = (G.take i).filter (fun x => !decide (x.1 = k)) ++ (if (gN G i).1 = k then [] else [gN G i])) := by
        show _ = _
        rw [take_gN (by rw [HN.out]; exact hin), List.filter_append]
        congr 1
        by_cases e : (gN G i).1 = k <;> simp [e]
      have LN : ((G.take i).filter (fun x => !decide (x.1 = k))).length + 1 ≤ 1000000000000 := by
        have := List.length_filter_le (fun x : Ky × Int => !decide (x.1 = k)) (G.take i)
        simp at this
        omega
      have KP : Hid (∀ w', Below wr.heap.size wr w' → w'.cell? ⟨g, o + i * 4, none⟩ = some (.int .i64 (gN G i).1.d) ∧ w'.cell? ⟨g, o + i * 4 + 1, none⟩ = some (.int .i64 (gN G i).1.l) ∧ w'.cell? ⟨g, o + i * 4 + 2, none⟩ = some (.int .i64 (gN G i).1.n) ∧ w'.cell? ⟨g, o + i * 4 + 3, none⟩ = some (.int .i64 (gN G i).2)) := fun w' b => ⟨below_cell b y0, below_cell b y1, below_cell b y2, below_cell b y3⟩
      have S0 : Hid (K7r wr g (o + i * 4) w.heap.size 0 (gN G i).1 k wr.drew) := ⟨Below.drew (Below.refl _ _), y0, y1, y2, D.out.1.cell 0 _ rfl, D.out.1.cell 1 _ rfl, D.out.1.cell 2 _ rfl⟩
      have SAi : Hid (∀ w, Calls Tryd.prog 49 #[.agg #[.int .i64 (gN G i).1.d, .int .i64 (gN G i).1.l, .int .i64 (gN G i).1.n], .agg #[.int .i64 k.d, .int .i64 k.l, .int .i64 k.n]] w fun e w' => e = .returned (.bool (decide ((gN G i).1 = k))) ∧ Below w.heap.size w w') := fun w => SA.out _ _ w
      clear y0 y1 y2 y3
      generalize (G.take i).filter (fun x => !decide (x.1 = k)) = A at *
      obtain ⟨z, hz⟩ : ∃ z, gN G i = z := ⟨_, rfl⟩
      rw [hz] at TK KP S0 SAi
      clear hz
      by_cases hs : z.1 = k
      · rw [decide_eq_true hs] at SAi
        rw [if_pos hs, List.append_nil] at TK
        clear hs KP
        go_upto_region 5 with fail
        go_region_held3 (fun w' => K7r wr g (o + i * 4) w.heap.size 0 z.1 k w') (first | assumption | exact S0.out | exact K7r.keep hU (by assumption)) (first
          | (go_at_call 49; refine (SAi.out _).mono ?_; rintro e w6 ⟨rfl, hU⟩))
        have b6 : Below wr.heap.size wr w6 := And.left (show K7r wr g (o + i * 4) w.heap.size 0 z.1 k w6 by assumption)
        have D6 : Hid (Blk w.heap.size 24 (kyL k) w6 ∧ Below w.heap.size w w6 ∧ RowI (w.heap.size + 1) w6 u5 ((G.take (i + 1)).filter (fun x => !decide (x.1 = k)))) := ⟨D.out.1.below b6, below_trans D.out.2.1 b6, by rw [TK.out]; exact D.out.2.2.later b6⟩
        clear D b6 hU S0 SAi TK
        go_wp2_with fail
        go_roundw
        case rel => exact ⟨i + 1, by go_num, by omega, D6.out⟩
        case measure => simp [intOf]; omega
      · rw [decide_eq_false hs] at SAi
        rw [if_neg hs] at TK
        clear hs
        go_upto_region 5 with fail
        go_region_held3 (fun w' => K7r wr g (o + i * 4) w.heap.size 0 z.1 k w') (first | assumption | exact S0.out | exact K7r.keep hU (by assumption)) (first
          | (go_at_call 49; refine (SAi.out _).mono ?_; rintro e w6 ⟨rfl, hU⟩))
        have b6 : Below wr.heap.size wr w6 := And.left (show K7r wr g (o + i * 4) w.heap.size 0 z.1 k w6 by assumption)
        obtain ⟨y0, y1, y2, y3⟩ := KP.out w6 b6
        have R6 : Hid (RowI (w.heap.size + 1) (w6.alloc (.cells (TQ.tmL z).toArray 77)) u5 A ∧ RdI (w6.alloc (.cells (TQ.tmL z).toArray 77)) (.slice (some ⟨w6.heap.size, 0, none⟩) 1 1) [z] ∧ w.heap.size + 1 ≤ (w6.alloc (.cells (TQ.tmL z).toArray 77)).heap.size ∧ Blk w.heap.size 24 (kyL k) (w6.alloc (.cells (TQ.tmL z).toArray 77)) ∧ Below w.heap.size w (w6.alloc (.cells (TQ.tmL z).toArray 77))) := by
          have bk := (D.out.1.below b6).old (.cells (TQ.tmL z).toArray 77)
          refine ⟨(D.out.2.2.later b6).later (below_alloc _ _), RdI.one w6 z, bk.lt, bk, below_trans (below_trans D.out.2.1 b6) (below_alloc _ _)⟩
        clear D b6 hU S0 SAi KP
        go_upto_region 4 with (at_builtin; refine wpList_catI rfl (.tmp 21) (.tmp 26) rfl (w.heap.size + 1) u5 (.slice (some ⟨w6.heap.size, 0, none⟩) 1 1) A [z] rfl R6.out.1 R6.out.2.2.1 rfl R6.out.2.1 LN ?_; intro v7 w7 r7 g7)
        have D7 : Hid (Blk w.heap.size 24 (kyL k) w7 ∧ Below w.heap.size w w7 ∧ RowI (w.heap.size + 1) w7 v7 ((G.take (i + 1)).filter (fun x => !decide (x.1 = k)))) := ⟨R6.out.2.2.2.1.grown g7 (fun e => by have := R6.out.1.ge e; omega), R6.out.2.2.2.2.grown g7 (Nat.le_of_succ_le R6.out.2.2.1) (fun q e => Nat.le_of_succ_le (R6.out.1.ge e)), by rw [TK.out]; exact r7⟩
        clear R6 TK r7 g7 y0 y1 y2 y3
        go_wp2_with fail
        go_roundw
        case rel => exact ⟨i + 1, by go_num, by omega, D7.out⟩
        case measure => simp [intOf]; omega
    · have ei : i = n := by omega
      subst ei
      have F6 : Hid (RowI w.heap.size wr u5 (G.filter (fun x => !decide (x.1 = k))) ∧ Below w.heap.size w wr) := by
        have := D.out.2.2
        rw [List.take_of_length_le (by rw [HN.out]; exact Nat.le_refl _)] at this
        exact ⟨this.mono (by omega), D.out.2.1⟩
      clear D
      go_wp2_with fail
      go_ret
      exact ⟨_, rfl, F6.out⟩
end Go.Proofs.YtfdehlfhnlgcjaaDoor
