/-
  Ours: the law's listed.
-/
import Derived.Test.YtfdehlfhnlgcjaaDoorTqRef
import Derived.Test.YtfdehlfhnlgcjaaDoorTqLaw
namespace Go.Proofs.YtfdehlfhnlgcjaaDoor
open Go.RowKit TqM

theorem kN_gN {G : List (Ky × Int)} {i : Nat} (h : i < G.length) : kN (G.map (·.1)) i = (gN G i).1 := by
  rw [kN_at (by simpa using h), gN_at h, List.getElem_map]

set_option maxRecDepth 20000 in
set_option maxHeartbeats 2000000 in
theorem listed_at (G : List (Ky × Int)) (vl vq : Value) (w : World) (hl : G.length ≤ 1000000000) (hk : RdK w vl (G.map (·.1))) (hq : RdI w vq G) :
    Calls Tryd.prog 48 #[vl, vq] w fun e w' => e = .returned (.bool true) ∧ Below w.heap.size w w' := by
  have RQ : Hid (∀ w', Below w.heap.size w w' → RdI w' vq G) := fun w' hb => hq.later hb
  have RK : Hid (∀ w', Below w.heap.size w w' → RdK w' vl (G.map (·.1))) := fun w' hb => hk.later hb
  obtain ⟨aq, cq, rfl, hcq, -, -⟩ := hq
  obtain ⟨al, cl, rfl, hcl, -, -⟩ := hk
  have SA : Hid (∀ (a : Ky) (w : World), Calls Tryd.prog 40 #[.agg #[.int .i64 a.d, .int .i64 a.l, .int .i64 a.n], .agg #[.int .i64 a.d, .int .i64 a.l, .int .i64 a.n]] w fun e w' => e = .returned (.bool true) ∧ Below w.heap.size w w') := fun a w => by
    have := same_at a a w
    rw [decide_eq_true rfl] at this
    exact this
  rw [List.length_map] at RK hcl ⊢
  have KG : Hid (∀ i, i < G.length → kN (G.map (·.1)) i = (gN G i).1) := fun i h => kN_gN h
  obtain ⟨n, hn⟩ : ∃ n, G.length = n := ⟨_, rfl⟩
  rw [hn] at hcq hcl hl RQ RK KG ⊢
  clear hn
  go_enter Tryd.func48, Tryd.ntmps48
  go_wp2_with fail
  go_loopw [5] (fun vi wr => ∃ i : Nat, vi = .int .i64 (i : Int) ∧ i ≤ n ∧ Hid (Below w.heap.size w wr)) (fun vi _ => n - (intOf vi).toNat)
  case atStart => exact ⟨0, rfl, by omega, Below.refl _ _⟩
  case round =>
    obtain ⟨i, rfl, hi, D⟩ := hrel
    by_cases hlt : (i : Int) < (n : Int)
    · have hin : i < n := by omega
      obtain ⟨g, o, rfl, y0, y1, y2, -⟩ := RdI.cells (RQ.out wr D.out) hin
      obtain ⟨gl, ol, rfl, x0, x1, x2, -⟩ := RdK.cells (RK.out wr D.out) hin
      rw [KG.out i hin] at x0 x1 x2
      have S0 : Hid (K7r wr gl (ol + i * 3) g (o + i * 4) (gN G i).1 (gN G i).1 wr.drew) := ⟨Below.drew (Below.refl _ _), x0, x1, x2, y0, y1, y2⟩
      clear x0 x1 x2 y0 y1 y2
      generalize (gN G i).1 = z at *
      go_upto_region 6 with fail
      go_region_held3 (fun w' => K7r wr gl (ol + i * 3) g (o + i * 4) z z w') (first | assumption | exact S0.out | exact K7r.keep hU (by assumption)) (first
        | (go_at_call 40; refine (SA.out _ _).mono ?_; rintro e w6 ⟨rfl, hU⟩))
      have b6 : Below wr.heap.size wr w6 := And.left (show K7r wr gl (ol + i * 3) g (o + i * 4) z z w6 by assumption)
      have D6 : Hid (Below w.heap.size w w6) := below_trans D.out b6
      clear D b6 hU S0
      go_wp2_with fail
      go_roundw
      case rel => exact ⟨i + 1, by go_num, by omega, D6.out⟩
      case measure => simp [intOf]; omega
    · have ei : i = n := by omega
      subst ei
      go_wp2_with fail
      go_ret
      exact ⟨rfl, D.out⟩
end Go.Proofs.YtfdehlfhnlgcjaaDoor
