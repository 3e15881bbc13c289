/-
  Ours: the contract of interest.Plan.
-/
import Derived.Test.YtgdmkcbbomfmdaaGreatDoorOwn
import Derived.Test.YtgdmkcbbomfmdaaGreatDoorProg
import Derived.Test.YtgdmkcbbomfmdaaGreatDoorCalNum
import Derived.Test.YtgdmkcbbomfmdaaGreatDoorIntPart1
import Derived.Test.YtgdmkcbbomfmdaaGreatDoorIntDue
namespace Go.Proofs.YtgdmkcbbomfmdaaGreatDoor
open Go.RowKit

theorem infoInst : (Tryz.prog.info? 67).map (fun i => (i.zero, i.size, i.bytes)) = some (some (.agg #[.int .i64 0, .int .i64 0, .int .i64 0, .bool false]), 4, 32) := by kernel_rfl

/-- An instalment's four cells. -/
def instC (x : Int × Int × Int) : List Value := [.int .i64 x.1, .int .i64 x.2.1, .int .i64 x.2.2, .bool false]
def RowI (base : Nat) (w : World) (v : Value) (rs : List (Int × Int × Int)) : Prop := w.ownsRow base 67 4 v rs.length (rs.flatMap instC)

theorem RowI.nil (base : Nat) (w : World) : RowI base w (.slice none 0 0) [] := World.ownsRow_nil _ _ _ _

theorem instC_length (rs : List (Int × Int × Int)) : (rs.flatMap instC).length = rs.length * 4 := by
  induction rs with
  | nil => rfl
  | cons x rs ih => simp only [List.flatMap_cons, List.length_append, ih, List.length_cons]; show 4 + _ = _; omega
theorem instC_get (rs : List (Int × Int × Int)) (i j : Nat) (hi : i < rs.length) (hj : j < 4) : (rs.flatMap instC)[4 * i + j]? = (instC (rs.getD i (0, 0, 0)))[j]? := by
  induction rs generalizing i with
  | nil => simp at hi
  | cons x rs ih =>
    simp only [List.flatMap_cons]
    have lx : (instC x).length = 4 := rfl
    cases i with
    | zero => rw [List.getElem?_append_left (by omega)]; simp
    | succ i =>
      rw [List.getElem?_append_right (by omega), lx]
      have := ih i (by simpa using hi)
      rw [show 4 * (i + 1) + j - 4 = 4 * i + j by omega, this]
      simp

theorem RowI.later {base : Nat} {w w' : World} {v : Value} {rs : List (Int × Int × Int)} (h : RowI base w v rs) (hb : Below w.heap.size w w') : RowI base w' v rs := by
  refine h.kept (row := none) ⟨hb.os, hb.tape, hb.output, hb.size, fun k hk _ => hb.block k hk⟩ ?_
  cases hv : v.ownBlock <;> simp
theorem RowI.mono {base base' : Nat} {w : World} {v : Value} {rs : List (Int × Int × Int)} (h : RowI base w v rs) (hb : base' ≤ base) : RowI base' w v rs := by
  refine ⟨h.1, ?_⟩
  rcases h.2 with hn | ⟨g, cap, cur, hv, hg, rest⟩
  · exact .inl hn
  · exact .inr ⟨g, cap, cur, hv, Nat.le_trans hb hg, rest⟩

/-- How such a row reads. -/
structure InstOk (w : World) (a : Option Addr) (rs : List (Int × Int × Int)) : Prop where
  len : rs.length ≤ 9223372036854775807
  cells : rs = [] ∨ ∃ g off, a = some ⟨g, off, none⟩ ∧ ∀ i, i < rs.length → w.cell? ⟨g, off + i * 4, none⟩ = some (.int .i64 (rs.getD i (0, 0, 0)).1) ∧ w.cell? ⟨g, off + i * 4 + 1, none⟩ = some (.int .i64 (rs.getD i (0, 0, 0)).2.1) ∧ w.cell? ⟨g, off + i * 4 + 2, none⟩ = some (.int .i64 (rs.getD i (0, 0, 0)).2.2) ∧ w.cell? ⟨g, off + i * 4 + 3, none⟩ = some (.bool false)
theorem InstOk.up {w w' : World} {a : Option Addr} {rs : List (Int × Int × Int)} (h : InstOk w a rs) (u : Up w w') : InstOk w' a rs := by
  refine ⟨h.len, ?_⟩
  rcases h.cells with e | ⟨g, off, e, hc⟩
  · exact .inl e
  · exact .inr ⟨g, off, e, fun i hi => ⟨u.cell (hc i hi).1, u.cell (hc i hi).2.1, u.cell (hc i hi).2.2.1, u.cell (hc i hi).2.2.2⟩⟩

theorem RowI.form {base : Nat} {w : World} {v : Value} {rs : List (Int × Int × Int)} (h : RowI base w v rs) (hl : rs.length ≤ 9223372036854775807) : ∃ a cap, v = .slice a rs.length cap ∧ InstOk w a rs := by
  have hc := fun (g : Nat) (hg : v.ownBlock = some g) => World.ownsRow.cells h hg
  rcases h.2 with ⟨hv, h0⟩ | ⟨g, cap, cur, rfl, hb, hg, hn, hm, hs, ht⟩
  · have : rs = [] := List.length_eq_zero_iff.1 h0
    subst this
    exact ⟨none, 0, hv, by simp, .inl rfl⟩
  · refine ⟨some ⟨g, 0, none⟩, cap, rfl, hl, .inr ⟨g, 0, rfl, fun i hi => ?_⟩⟩
    have hadd : ∀ j : Nat, (⟨g, 0, none⟩ : Addr).add j = ⟨g, j, none⟩ := fun j => by unfold Addr.add; split <;> simp_all
    have key : ∀ j, j < 4 → ∀ u, (instC (rs.getD i (0, 0, 0)))[j]? = some u → w.cell? ⟨g, 0 + i * 4 + j, none⟩ = some u := fun j hj u hu => by
      rw [← hadd, show 0 + i * 4 + j = 4 * i + j by omega]
      exact hc g rfl _ _ ((instC_get rs i j hi hj).trans hu)
    exact ⟨key 0 (by omega) _ rfl, key 1 (by omega) _ rfl, key 2 (by omega) _ rfl, key 3 (by omega) _ rfl⟩

/-- 'v = append(v, row)' on a row of the call's own. -/
theorem wpList_pushI {P : Program} {wr : World} {ops : Array Oper} {rest : List Oper} {o : Oper} {a : Act} {Q : Exit → Act → World → Prop} (hgd : o.guard = none) (s x : Operand) (t : TypeId)
    (ho : o.op = .call { callee := .builtin .append, args := #[s, x], argTypes := #[t, t] })
    (i : TypeInfo) (ht : P.underlying t = some (.slice 67)) (hi : P.info? 67 = some i) (z : Value) (hz : i.zero = some z) (hzc : z.cells.size = 4) (hsize : i.size = 4) (hby : i.bytes = 32)
    (base B : Nat) (w : World) (v : Value) (rs : List (Int × Int × Int)) (d e p : Int) (hs : a.eval s = v) (hown : RowI base wr v rs) (hnx : Below B w wr) (hB : B ≤ base) (hsz : base ≤ wr.heap.size)
    (hx : a.eval x = .slice (some ⟨wr.heap.size, 0, none⟩) 1 1) (hl : rs.length < 1048576)
    (h : ∀ v' w', RowI base w' v' (rs ++ [(d, e, p)]) → Below B w w' → base ≤ w'.heap.size → wpList P ops Q rest (a.put o.dst v') w') :
    wpList P ops Q (o :: rest) a (wr.alloc (.cells #[.int .i64 d, .int .i64 e, .int .i64 p, .bool false] 67)) := by
  refine wpList_append_own _ hgd s x t ho base _ i z 4 32 ht hi hz hsize hby hzc (by decide) v rs.length (rs.flatMap instC) hs (World.ownsRow.alloc hown _) ⟨wr.heap.size, 0, none⟩ 1 1 (instC (d, e, p)) hx rfl ?_ ?_ ?_ ?_ ?_ ?_
  · intro j u hj
    match j, hj with
    | 0, hj => simp [instC] at hj; subst hj; simp [Addr.add]
    | 1, hj => simp [instC] at hj; subst hj; simp [Addr.add]
    | 2, hj => simp [instC] at hj; subst hj; simp [Addr.add]
    | 3, hj => simp [instC] at hj; subst hj; simp [Addr.add]
  · intro u hu; simp [instC] at hu; rcases hu with rfl | rfl | rfl | rfl <;> rfl
  · unfold maxLen; omega
  · omega
  · simp; omega
  · intro v' w' hown' hgrow _
    have r1 : RowI base w' v' (rs ++ [(d, e, p)]) := by simpa [RowI] using hown'
    refine h v' w' r1 ((hnx.alloc (by omega) _).grown hgrow (by simp; omega) (fun j hj => by have := (hown.lt j hj).1; omega)) ?_
    have := hgrow.size
    simp at this
    omega
end Go.Proofs.YtgdmkcbbomfmdaaGreatDoor

namespace Go.Proofs.YtgdmkcbbomfmdaaGreatDoor
open Go.RowKit IntM CalM

/-- The terms' six cells. -/
structure TermsAt (kind P r n start rule : Int) (bb : Nat) (w : World) : Prop where
  c0 : w.cell? ⟨bb, 0, none⟩ = some (.int .i64 kind)
  c1 : w.cell? ⟨bb, 1, none⟩ = some (.int .i64 P)
  c2 : w.cell? ⟨bb, 2, none⟩ = some (.int .i64 r)
  c3 : w.cell? ⟨bb, 3, none⟩ = some (.int .i64 n)
  c4 : w.cell? ⟨bb, 4, none⟩ = some (.int .i64 start)
  c5 : w.cell? ⟨bb, 5, none⟩ = some (.int .i64 rule)
theorem TermsAt.up {kind P r n start rule : Int} {bb : Nat} {w w' : World} (h : TermsAt kind P r n start rule bb w) (u : Up w w') : TermsAt kind P r n start rule bb w' :=
  ⟨u.cell h.c0, u.cell h.c1, u.cell h.c2, u.cell h.c3, u.cell h.c4, u.cell h.c5⟩

/-- What Plan answers, by the rows of the plan. -/
def PlanAns (base : Nat) (w : World) (v : Value) : Option (List (Int × Int × Int)) → Prop
  | some rs => RowI base w v rs
  | none => v = .slice none 0 0
def PlanEnd (base : Nat) (o : Option (List (Int × Int × Int))) (e : Ending) (w : World) : Prop := ∃ v : Value, e = .returned (.tuple #[v, .bool o.isSome]) ∧ PlanAns base w v o

theorem map_pre {x : Option (List (Int × Int × Int))} {rs : List (Int × Int × Int)} {y : Int × Int × Int} : (x.map (y :: ·)).map (rs ++ ·) = x.map ((rs ++ [y]) ++ ·) := by
  cases x <;> simp

set_option maxRecDepth 20000 in
set_option maxHeartbeats 4000000 in
theorem plan_go (kind P r start rule pay : Int) (n : Nat) (y m k0 : Int) (hk : Ok y m k0) (hd : dA y m + k0 = start) (hv : validB kind P r n start rule = true)
    (PT : Hid (∀ w, Calls Tryz.prog 81 #[termsV kind P r n start rule] w fun e w' => ∃ fv, e = .returned fv ∧ Up w w' ∧ PartsAns kind P n pay fv w'))
    (hI : Inv kind P r n pay 0 P) (a : Option Addr) (cap : Nat) (xs : List Int) (lx : xs.length ≤ 64) (w : World) (hA : TabA w) (hL : TabL w) (hS : SlOk w a xs) :
    Calls Tryz.prog 46 #[termsV kind P r n start rule, .slice a xs.length cap] w fun e w' =>
      Up w w' ∧ PlanEnd w.heap.size (planF r (partI kind P n pay) (fun k => dueO ((y - 1) * 12 + m - 1 + (k : Int)) k0 xs rule) n 0 P) e w' := by
  obtain ⟨i0, hi, hz0, hz1, hz2⟩ := info_parts infoInst
  have VA : Hid (∀ w, TabA w → Calls Tryz.prog 80 #[termsV kind P r n start rule] w fun e w' => e = .returned (.bool true) ∧ Up w w') := fun w hA => by
    have := valid_at kind P r n start rule w hA
    rw [hv] at this
    exact this
  obtain ⟨_, ⟨kd0, kd1⟩, ⟨P0, P1⟩, ⟨r0, r1⟩, ⟨n0, n1⟩, _⟩ := of_decide_eq_true hv
  have HA : Hid (TabA w) := hA
  have HL : Hid (TabL w) := hL
  have HS : Hid (SlOk w a xs) := hS
  have HI : Hid (Inv kind P r n pay 0 P) := hI
  have lx' : (xs.length : Int) ≤ 64 := by omega
  have DU : Hid (∀ (k : Nat) (w : World), TabA w → TabL w → SlOk w a xs → Calls Tryz.prog 83 #[termsV kind P r n start rule, .int .i64 (k : Int), .slice a xs.length cap] w fun e w' => e = .returned (.tuple #[.int .i64 (optN (dueO ((y - 1) * 12 + m - 1 + k) k0 xs rule)), .bool (dueO ((y - 1) * 12 + m - 1 + k) k0 xs rule).isSome]) ∧ Up w w') :=
    fun k w hA hL hS => dueDay_at kind P r n start rule y m k0 hk hd k _ rfl a cap xs _ rfl w hA hL hS
  clear hA hL hS hI hv hk hd
  generalize hdue : (fun k : Nat => dueO ((y - 1) * 12 + m - 1 + (k : Int)) k0 xs rule) = due at *
  have DD : Hid (∀ (k : Nat) (w : World), TabA w → TabL w → SlOk w a xs → Calls Tryz.prog 83 #[termsV kind P r n start rule, .int .i64 (k : Int), .slice a xs.length cap] w fun e w' => e = .returned (.tuple #[.int .i64 (optN (due k)), .bool (due k).isSome]) ∧ Up w w') := by rw [← hdue]; exact DU
  clear DU hdue
  generalize hxl : xs.length = L at *
  unfold termsV at *
  go_enter Tryz.func46, Tryz.ntmps46
  go_wp2_with fail
  refine (VA.out _ (HA.out.al _)).mono ?_
  rintro e w1 ⟨rfl, U1⟩
  have U0 := (Up.refl w).alloc (.cells #[.int .i64 kind, .int .i64 P, .int .i64 r, .int .i64 (n : Int), .int .i64 start, .int .i64 rule] 26)
  have TA1 : TermsAt kind P r n start rule w.heap.size w1 := ⟨cell_in U1 0 _ rfl, cell_in U1 1 _ rfl, cell_in U1 2 _ rfl, cell_in U1 3 _ rfl, cell_in U1 4 _ rfl, cell_in U1 5 _ rfl⟩
  obtain ⟨c0, c1, c2, c3, c4, c5⟩ := TA1
  have UU := U0.trans U1
  clear U0 U1
  go_wp2_with fail
  refine (PT.out _).mono ?_
  rintro e W ⟨fv, rfl, U2, F, caps, rfl, hF, hR⟩
  have TA : Hid (TermsAt kind P r n start rule w.heap.size W) := TermsAt.up ⟨c0, c1, c2, c3, c4, c5⟩ U2
  have UW : Hid (Up w W) := UU.trans U2
  have HF : Hid (PartFn F caps (partI kind P n pay) W) := hF
  have d1 := TA.out.c1
  have d3 := TA.out.c3
  clear c0 c1 c2 c3 c4 c5 UU U2 hF PT VA
  generalize hbb : w.heap.size = bb at *
  have HB : Hid (w.heap.size = bb) := hbb
  clear hbb
  go_wp2_with fail
  go_loopw [7, 8, 30] (fun vb vp vk wr => ∃ (k : Nat) (b : Int) (rs : List (Int × Int × Int)), vb = .int .i64 b ∧ vk = .int .i64 (k : Int) ∧ k ≤ n ∧ b ≠ 0 ∧ rs.length ≤ k ∧ Hid (Inv kind P r n pay k b) ∧ RowI W.heap.size wr vp rs ∧ Below W.heap.size W wr ∧ Hid (planF r (partI kind P n pay) due n 0 P = (planF r (partI kind P n pay) due (n - k) k b).map (rs ++ ·))) (fun _ _ vk _ => n - (intOf vk).toNat)
  case atStart => exact ⟨0, P, [], rfl, rfl, by omega, by omega, by simp, HI, RowI.nil _ _, Below.refl _ _, by show _ = _; simp⟩
  case round =>
    obtain ⟨k, b, rs, rfl, rfl, hk, hb, hlr, hinv, hown, hnx, hpl⟩ := hrel
    by_cases hlt : (k : Int) < (n : Int)
    · obtain ⟨j, hj⟩ : ∃ j, n - k = j + 1 := ⟨n - k - 1, by omega⟩
      have hpl' := hpl.out
      rw [hj] at hpl'
      obtain ⟨p0, p1, hin, _⟩ := inv_step (by omega) (by omega) r0 hinv.out hb (by omega)
      obtain ⟨b0, b1, _⟩ := hinv.out
      have m0 := mon_nonneg b0 r0
      have m1 := mon_le b0 r1
      have hO : Up W wr := hnx
      obtain ⟨c0, c1, c2, c3, c4, c5⟩ := TA.out.up hO
      have MM : Hid (∀ w, Calls Tryz.prog 82 #[.int .i64 b, .int .i64 r] w fun e w' => e = .returned (.tuple #[.int .i64 (mon b r), .bool true]) ∧ Up w w') := fun w => (month_at b r b0 (by omega) r0 r1 w).mono fun e w' ⟨he, m, hw⟩ => ⟨he, by rw [hw]; exact up_drewN (Up.refl w) m⟩
      have PC : Hid (∀ w', Up W w' → Calls Tryz.prog F (#[.int .i64 ((k + 1 : Nat) : Int), .int .i64 b, .int .i64 (mon b r)] ++ caps) w' fun e w'' => e = .returned (.int .i64 (partI kind P n pay (k + 1) b (mon b r))) ∧ w'' = w') := fun w' hu => HF.out w' (k + 1) b (mon b r) hu (by omega) b0 (by omega) m0 (by omega)
      have sk := @planF_skip r (partI kind P n pay) due j k b hb
      have sn := @planF_no r (partI kind P n pay) due j k b hb
      have sr := fun d => @planF_row r (partI kind P n pay) due j k b d hb
      have hin' : Hid (Inv kind P r n pay (k + 1) (b - partI kind P n pay (k + 1) b (mon b r))) := hin
      have sz := @planF_zero r (partI kind P n pay) due j (k + 1)
      have hks : Hid (partI kind P n pay (k + 1) b (mon b r) = 0 → Inv kind P r n pay (k + 1) b) := fun h => by have := hin; rw [h, Int.sub_zero] at this; exact this
      clear hin
      generalize hp : partI kind P n pay (k + 1) b (mon b r) = p at *
      generalize hmi : mon b r = i at *
      clear hp hmi
      have DC := fun w => DD.out (k + 1) w
      have hlr' : rs.length < 1048576 := by omega
      by_cases hz : i = 0 ∧ p = 0
      · obtain ⟨rfl, rfl⟩ := hz
        have NP : Hid (planF r (partI kind P n pay) due n 0 P = (planF r (partI kind P n pay) due (n - (k + 1)) (k + 1) b).map (rs ++ ·)) := by
          show _ = _
          rw [hpl', sk ⟨rfl, rfl⟩, show n - (k + 1) = j by omega]
        clear sk sn sr sz hpl' hpl DC
        have NI : Hid (Inv kind P r n pay (k + 1) b) := hks.out rfl
        clear hks hin'
        go_wp2_with fail
        refine (MM.out _).mono ?_
        rintro e w3 ⟨rfl, U3⟩
        go_wp2_with fail
        refine (PC.out _ (hO.trans U3)).mono ?_
        rintro e w4 ⟨rfl, hw⟩; rw [hw]; clear hw w4
        go_wp2_with fail
        go_roundw
        case rel => exact ⟨k + 1, b, rs, rfl, by go_num, by omega, hb, by omega, NI, hown.later U3, hO.trans U3, NP⟩
        case measure => simp [intOf]; omega
      · have sn' := sn hz
        have sr' := fun d => sr d hz
        clear sk sn sr hks hpl
        have DC : Hid (∀ w, TabA w → TabL w → SlOk w a xs → Calls Tryz.prog 83 #[.agg #[.int .i64 kind, .int .i64 P, .int .i64 r, .int .i64 (n : Int), .int .i64 start, .int .i64 rule], .int .i64 ((k + 1 : Nat) : Int), .slice a L cap] w fun e w' => e = .returned (.tuple #[.int .i64 (optN (due (k + 1))), .bool (due (k + 1)).isSome]) ∧ Up w w') := fun w => DD.out (k + 1) w
        cases hdu : due (k + 1) with
        | none =>
          have NP : Hid (planF r (partI kind P n pay) due n 0 P = none) := by
            show _ = _
            rw [hpl', sn' hdu]; rfl
          rw [hdu] at DC
          clear sn' sr' sz hpl' hin' hdu
          have hcase : (i = 0 ∧ ¬ p = 0) ∨ ¬ i = 0 := by omega
          clear hz
          rcases hcase with ⟨rfl, hp0⟩ | hi0
          all_goals
            go_wp2_with fail
            refine (MM.out _).mono ?_
            rintro e w3 ⟨rfl, U3⟩
            go_wp2_with fail
            refine (PC.out _ (hO.trans U3)).mono ?_
            rintro e w4 ⟨rfl, hw⟩; rw [hw]; clear hw w4
            obtain ⟨e0, e1, e2, e3, e4, e5⟩ := TA.out.up (hO.trans U3)
            have UX := UW.out.trans (hO.trans U3)
            go_wp2_with fail
            refine (DC.out _ (HA.out.up UX) (HL.out.up UX) (HS.out.up UX)).mono ?_
            rintro e w5 ⟨rfl, U5⟩
            go_wp2_with fail
            go_ret2
            refine ⟨UX.trans U5, ?_⟩
            rw [NP.out]
            exact ⟨_, rfl, rfl⟩
        | some d =>
          have hsr := sr' d hdu
          rw [hdu] at DC
          clear sn' sr' hdu
          have NB : Hid (planF r (partI kind P n pay) due n 0 P = (planF r (partI kind P n pay) due (n - (k + 1)) (k + 1) (b - p)).map ((rs ++ [(d, i, p)]) ++ ·)) := by
            show _ = _
            rw [hpl', hsr, map_pre, show n - (k + 1) = j by omega]
          have NA : Hid (b - p = 0 → planF r (partI kind P n pay) due n 0 P = some (rs ++ [(d, i, p)])) := fun e => by
            rw [hpl', hsr, e, sz]; rfl
          have ln : (rs ++ [(d, i, p)]).length ≤ k + 1 := by simp; omega
          have hcase : (i = 0 ∧ ¬ p = 0) ∨ ¬ i = 0 := by omega
          clear hz hpl' hsr sz DD
          rcases hcase with ⟨rfl, hp0⟩ | hi0
          all_goals
            by_cases hbp : b - p = 0
            · go_wp2_with fail
              refine (MM.out _).mono ?_
              rintro e w3 ⟨rfl, U3⟩
              go_wp2_with fail
              refine (PC.out _ (hO.trans U3)).mono ?_
              rintro e w4 ⟨rfl, hw⟩; rw [hw]; clear hw w4
              obtain ⟨e0, e1, e2, e3, e4, e5⟩ := TA.out.up (hO.trans U3)
              have UX := UW.out.trans (hO.trans U3)
              go_wp2_with fail
              refine (DC.out _ (HA.out.up UX) (HL.out.up UX) (HS.out.up UX)).mono ?_
              rintro e w5 ⟨rfl, U5⟩
              have hown5 : RowI W.heap.size w5 u8 rs := (hown.later U3).later U5
              have hnx5 : Below W.heap.size W w5 := (hO.trans U3).trans U5
              have hsz5 := hnx5.size
              go_wp2_with (at_builtin; refine wpList_pushI rfl (.tmp 62) (.tmp 67) 28 rfl i0 Tryz.underlying28 hi _ hz0 rfl hz1 hz2 W.heap.size W.heap.size W _ _ _ _ _ rfl hown5 hnx5 (Nat.le_refl _) hsz5 rfl hlr' ?_; intro v' w6 hown' hnx' hsz')
              go_ret2
              refine ⟨UW.out.trans hnx', ?_⟩
              rw [NA.out hbp]
              exact ⟨_, rfl, hown'.mono UW.out.size⟩
            · go_wp2_with fail
              refine (MM.out _).mono ?_
              rintro e w3 ⟨rfl, U3⟩
              go_wp2_with fail
              refine (PC.out _ (hO.trans U3)).mono ?_
              rintro e w4 ⟨rfl, hw⟩; rw [hw]; clear hw w4
              obtain ⟨e0, e1, e2, e3, e4, e5⟩ := TA.out.up (hO.trans U3)
              have UX := UW.out.trans (hO.trans U3)
              go_wp2_with fail
              refine (DC.out _ (HA.out.up UX) (HL.out.up UX) (HS.out.up UX)).mono ?_
              rintro e w5 ⟨rfl, U5⟩
              have hown5 : RowI W.heap.size w5 u8 rs := (hown.later U3).later U5
              have hnx5 : Below W.heap.size W w5 := (hO.trans U3).trans U5
              have hsz5 := hnx5.size
              go_wp2_with (at_builtin; refine wpList_pushI rfl (.tmp 62) (.tmp 67) 28 rfl i0 Tryz.underlying28 hi _ hz0 rfl hz1 hz2 W.heap.size W.heap.size W _ _ _ _ _ rfl hown5 hnx5 (Nat.le_refl _) hsz5 rfl hlr' ?_; intro v' w6 hown' hnx' hsz')
              go_roundw
              case rel => exact ⟨k + 1, b - p, _, by go_num, by go_num, by omega, hbp, ln, hin', hown', hnx', NB⟩
              case measure => simp [intOf]; omega
    · obtain rfl : k = n := by omega
      have hpl' := hpl.out
      rw [Nat.sub_self, planF_none] at hpl'
      simp only [Option.map_some, List.append_nil] at hpl'
      clear hpl
      go_wp2_with fail
      go_ret2
      refine ⟨UW.out.trans hnx, ?_⟩
      try rw [hpl']
      exact ⟨_, rfl, hown.mono UW.out.size⟩
end Go.Proofs.YtgdmkcbbomfmdaaGreatDoor
