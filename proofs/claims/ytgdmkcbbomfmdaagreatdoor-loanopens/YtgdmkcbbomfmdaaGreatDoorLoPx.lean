/-
  Ours: a new plan's rows as a block of their own beside a draft's.
-/
import Derived.Test.YtgdmkcbbomfmdaaGreatDoorIntPlanR
import Derived.Test.YtgdmkcbbomfmdaaGreatDoorCalAdj
import Derived.Test.YtgdmkcbbomfmdaaGreatDoorLoBk
namespace Go.Proofs.YtgdmkcbbomfmdaaGreatDoor
open Go.RowKit IntM CalM

open Classical in
/-- The level payment, 0 where there is none. -/
noncomputable def payN (P r : Int) (n : Nat) : Int := if h : ∃ p, Lv P r n p then Classical.choose h else 0
theorem payN_spec {P r p : Int} {n : Nat} (h : Lv P r n p) : Lv P r n (payN P r n) := by
  unfold payN
  rw [dif_pos ⟨p, h⟩]
  exact Classical.choose_spec (⟨p, h⟩ : ∃ p, Lv P r n p)

/-- The due day of a month of terms. -/
noncomputable def dueT (start rule : Int) (xs : List Int) (k : Nat) : Option Int := dueO ((dY start - 1) * 12 + dM start - 1 + (k : Int)) (dK start) xs rule
/-- The rows of a plan, none where it is refused. -/
noncomputable def planO (kind P r n start rule : Int) (xs : List Int) : Option (List (Int × Int × Int)) :=
  if validB kind P r n start rule = true ∧ xs.length ≤ 64 then planF r (partI kind P n.toNat (payN P r n.toNat)) (dueT start rule xs) n.toNat 0 P else none

theorem valid_parts {kind P r n start rule : Int} (hv : validB kind P r n start rule = true) : (1 ≤ start ∧ start ≤ 3652059) ∧ (kind = 0 ∨ kind = 1 ∨ kind = 2) ∧ (1 ≤ P ∧ P ≤ 10000000000000) ∧ (0 ≤ r ∧ r ≤ 100000) ∧ (1 ≤ n ∧ n ≤ 120) ∧ (0 ≤ rule ∧ rule ≤ 3) ∧ Lv P r n.toNat (payN P r n.toNat) := by
  obtain ⟨h1, h2, h3, h4, h5, h6⟩ := of_decide_eq_true hv
  refine ⟨h1, by omega, h3, h4, h5, h6, ?_⟩
  obtain ⟨j, hj⟩ : ∃ j, n.toNat = j + 1 := ⟨n.toNat - 1, by omega⟩
  rw [hj]
  obtain ⟨p, hp, _⟩ := lv_lend j h3.1 h3.2 h4.1 h4.2
  exact payN_spec hp

set_option maxRecDepth 20000 in
theorem plan_no (kind P r n start rule : Int) (xs : List Int) (a : Option Addr) (cap : Nat) (h : ¬ (validB kind P r n start rule = true ∧ xs.length ≤ 64)) (w : World) (hA : TabA w) :
    Calls Tryz.prog 46 #[termsV kind P r n start rule, .slice a xs.length cap] w fun e w' => Up w w' ∧ PlanEnd w.heap.size none e w' := by
  have VA : Hid (∀ w, TabA w → Calls Tryz.prog 80 #[termsV kind P r n start rule] w fun e w' => e = .returned (.bool (validB kind P r n start rule)) ∧ Up w w') := fun w hA => valid_at kind P r n start rule w hA
  have HA : Hid (TabA w) := hA
  cases hv : validB kind P r n start rule with
  | false =>
    rw [hv] at VA
    clear h hA hv
    generalize xs.length = L at *
    unfold termsV at *
    go_enter Tryz.func46, Tryz.ntmps46
    go_wp2_with fail
    refine (VA.out _ (HA.out.al _)).mono ?_
    rintro e w1 ⟨rfl, U1⟩
    go_wp2_with fail
    go_ret2
    exact ⟨((Up.refl w).alloc _).trans U1, _, rfl, rfl⟩
  | true =>
    rw [hv] at VA
    have hl : 64 < (xs.length : Int) := by
      have : ¬ xs.length ≤ 64 := fun g => h ⟨hv, g⟩
      omega
    clear h hA hv
    generalize xs.length = L at *
    unfold termsV at *
    go_enter Tryz.func46, Tryz.ntmps46
    go_wp2_with fail
    refine (VA.out _ (HA.out.al _)).mono ?_
    rintro e w1 ⟨rfl, U1⟩
    go_wp2_with fail
    go_ret2
    exact ⟨((Up.refl w).alloc _).trans U1, _, rfl, rfl⟩

set_option maxRecDepth 20000 in
theorem refPlan_no (kind P r n start rule : Int) (xs : List Int) (a : Option Addr) (cap : Nat) (h : ¬ (validB kind P r n start rule = true ∧ xs.length ≤ 64)) (w : World) :
    Calls Tryz.prog 16 #[termsV kind P r n start rule, .slice a xs.length cap] w fun e w' => Up w w' ∧ PlanEnd w.heap.size none e w' := by
  have VA : Hid (∀ w, Calls Tryz.prog 35 #[termsV kind P r n start rule] w fun e w' => e = .returned (.bool (validB kind P r n start rule)) ∧ Up w w') := fun w => refValid_at kind P r n start rule w
  cases hv : validB kind P r n start rule with
  | false =>
    rw [hv] at VA
    clear h hv
    generalize xs.length = L at *
    unfold termsV at *
    go_enter Tryz.func16, Tryz.ntmps16
    go_wp2_with fail
    refine (VA.out _).mono ?_
    rintro e w1 ⟨rfl, U1⟩
    go_wp2_with fail
    go_ret2
    exact ⟨((Up.refl w).alloc _).trans U1, _, rfl, rfl⟩
  | true =>
    rw [hv] at VA
    have hl : 64 < (xs.length : Int) := by
      have : ¬ xs.length ≤ 64 := fun g => h ⟨hv, g⟩
      omega
    clear h hv
    generalize xs.length = L at *
    unfold termsV at *
    go_enter Tryz.func16, Tryz.ntmps16
    go_wp2_with fail
    refine (VA.out _).mono ?_
    rintro e w1 ⟨rfl, U1⟩
    go_wp2_with fail
    go_ret2
    exact ⟨((Up.refl w).alloc _).trans U1, _, rfl, rfl⟩

theorem plan_at (kind P r n start rule : Int) (xs : List Int) (a : Option Addr) (cap : Nat) (w : World) (hA : TabA w) (hL : TabL w) (hS : SlOk w a xs) :
    Calls Tryz.prog 46 #[termsV kind P r n start rule, .slice a xs.length cap] w fun e w' => Up w w' ∧ PlanEnd w.heap.size (planO kind P r n start rule xs) e w' := by
  by_cases h : validB kind P r n start rule = true ∧ xs.length ≤ 64
  · obtain ⟨hs, hk, hP, hr, hn, _, hp⟩ := valid_parts h.1
    unfold planO
    rw [if_pos h]
    obtain ⟨m, rfl⟩ : ∃ m : Nat, n = (m : Int) := ⟨n.toNat, by omega⟩
    rw [Int.toNat_natCast] at *
    obtain ⟨ok, hd⟩ := date_spec start hs.1 hs.2
    refine plan_go kind P r start rule (payN P r m) m (dY start) (dM start) (dK start) ok hd h.1 (fun w => ?_) (inv_start hP.1 (by omega) (fun _ => lv_pays hp)) a cap xs h.2 w hA hL hS
    rcases hk with rfl | rfl | rfl
    · exact parts0 P r start rule (payN P r m) m hP.1 hP.2 hr.1 hr.2 (by omega) (by omega) hp w
    · exact parts1 P r start rule (payN P r m) m hP.1 hP.2 (by omega) (by omega) w
    · exact parts2 P r start rule (payN P r m) m w
  · unfold planO
    rw [if_neg h]
    exact plan_no kind P r n start rule xs a cap h w hA

theorem refPlan_at (kind P r n start rule : Int) (xs : List Int) (a : Option Addr) (cap : Nat) (w : World) (hS : SlOk w a xs) :
    Calls Tryz.prog 16 #[termsV kind P r n start rule, .slice a xs.length cap] w fun e w' => Up w w' ∧ PlanEnd w.heap.size (planO kind P r n start rule xs) e w' := by
  by_cases h : validB kind P r n start rule = true ∧ xs.length ≤ 64
  · obtain ⟨hs, hk, hP, hr, hn, _, hp⟩ := valid_parts h.1
    unfold planO
    rw [if_pos h]
    obtain ⟨m, rfl⟩ : ∃ m : Nat, n = (m : Int) := ⟨n.toNat, by omega⟩
    rw [Int.toNat_natCast] at *
    obtain ⟨ok, hd⟩ := date_spec start hs.1 hs.2
    exact refPlan_go kind P r start rule (payN P r m) m (dY start) (dM start) (dK start) ok hd h.1 hp (inv_start hP.1 (by omega) (fun _ => lv_pays hp)) a cap xs h.2 w hS
  · unfold planO
    rw [if_neg h]
    exact refPlan_no kind P r n start rule xs a cap h w
end Go.Proofs.YtgdmkcbbomfmdaaGreatDoor

namespace Go.Proofs.YtgdmkcbbomfmdaaGreatDoor
open Go.RowKit LedM CoM LoM

theorem KD.addB {w w1 : World} {bs : List (Nat × TypeId × List Value)} (h : KD w bs w1) {g : Nat} {T : TypeId} {cs : List Value} (hb : Blk g T cs w1) (hg : w.heap.size ≤ g) (hn : ∀ q ∈ bs, q.1 ≠ g) : KD w (bs ++ [(g, T, cs)]) w1 := by
  refine ⟨h.bb, fun k q hq => ?_, fun j k q q' hq hq' e => ?_⟩
  · by_cases hk : k < bs.length
    · rw [List.getElem?_append_left hk] at hq
      exact h.bk k q hq
    · rw [List.getElem?_append_right (by omega)] at hq
      cases hd : k - bs.length with
      | zero => rw [hd] at hq; simp at hq; subst hq; exact ⟨hg, hb⟩
      | succ m => rw [hd] at hq; simp at hq
  · have key : ∀ j q, (bs ++ [(g, T, cs)])[j]? = some q → (bs[j]? = some q ∧ q.1 ≠ g) ∨ (j = bs.length ∧ q.1 = g) := fun j q hq => by
      by_cases hk : j < bs.length
      · rw [List.getElem?_append_left hk] at hq
        exact .inl ⟨hq, hn q (List.mem_of_getElem? hq)⟩
      · rw [List.getElem?_append_right (by omega)] at hq
        cases hd : j - bs.length with
        | zero => rw [hd] at hq; simp at hq; exact .inr ⟨by omega, by rw [← hq]⟩
        | succ m => rw [hd] at hq; simp at hq
    rcases key j q hq with ⟨b1, n1⟩ | ⟨e1, s1⟩
    · rcases key k q' hq' with ⟨b2, n2⟩ | ⟨e2, s2⟩
      · exact h.nd j k q q' b1 b2 e
      · exact absurd (e.trans s2) n1
    · rcases key k q' hq' with ⟨b2, n2⟩ | ⟨e2, s2⟩
      · exact absurd (e.symm.trans s1) n2
      · omega
/-- A plan that lies in at most one block: nil, or the front of that block. -/
def PlX (rs : List (Int × Int × Int)) (ex : List (Nat × TypeId × List Value)) (v : Value) : Prop :=
  (v = .slice none 0 0 ∧ rs = [] ∧ ex = []) ∨ ∃ g cap cs, v = .slice (some ⟨g, 0, none⟩) rs.length cap ∧ rs.length ≤ cap ∧ cap ≤ maxLen ∧ ex = [(g, 67, cs)] ∧ cs.length = cap * 4 ∧ cs.take (rs.length * 4) = rs.flatMap instC
theorem rowI_px {base : Nat} {w w1 : World} {bs : List (Nat × TypeId × List Value)} {v : Value} {rs : List (Int × Int × Int)} (h : KD w bs w1) (r : RowI base w1 v rs) (hb : w.heap.size ≤ base) (hn : ∀ q ∈ bs, q.1 < base) : ∃ ex, PlX rs ex v ∧ KD w (bs ++ ex) w1 := by
  rcases r.2 with ⟨hv, h0⟩ | ⟨g, cap, cur, hv, hg, hblk, hnc, hm, hcs, htk⟩
  · exact ⟨[], .inl ⟨hv, List.eq_nil_of_length_eq_zero h0, rfl⟩, by rw [List.append_nil]; exact h⟩
  · exact ⟨_, .inr ⟨g, cap, cur.toList, hv, hnc, hm, rfl, by rw [Array.length_toList]; exact hcs, htk⟩, h.addB (by unfold Blk; rw [hblk]) (Nat.le_trans hb hg) (fun q hq e => by have := hn q hq; omega)⟩
end Go.Proofs.YtgdmkcbbomfmdaaGreatDoor
