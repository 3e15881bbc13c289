/-
  Ours: what the walk of InterestFresh needs.
-/
import Derived.Test.YtkabfdajpilomabDoorIntFr1
import Derived.Test.YtkabfdajpilomabDoorIntAmort2
import Derived.Test.YtkabfdajpilomabDoorIntLend
import Derived.Test.YtkabfdajpilomabDoorIntRowF
namespace Go.Proofs.YtkabfdajpilomabDoor
open Go.RowKit IntM CalM

theorem planF_len {r : Int} {pf : Nat → Int → Int → Int} {due : Nat → Option Int} : ∀ (m k : Nat) (b : Int) (rs : List R3), planF r pf due m k b = some rs → rs.length ≤ m
  | 0, k, b, rs, h => by rw [planF_none] at h; obtain rfl := Option.some.inj h; simp
  | m + 1, k, b, rs, h => by
    by_cases hb : b = 0
    · subst hb; rw [planF_zero] at h; obtain rfl := Option.some.inj h; simp
    · by_cases hz : mon b r = 0 ∧ pf (k + 1) b (mon b r) = 0
      · rw [planF_skip hb hz] at h
        have := planF_len m (k + 1) b rs h; omega
      · cases hd : due (k + 1) with
        | none => rw [planF_no hb hz hd] at h; cases h
        | some d =>
          rw [planF_row hb hz hd] at h
          cases hr : planF r pf due m (k + 1) (b - pf (k + 1) b (mon b r)) with
          | none => rw [hr] at h; cases h
          | some rs' =>
            rw [hr] at h
            obtain rfl := Option.some.inj h
            have := planF_len m (k + 1) _ rs' hr
            simp; omega

theorem planO_len (kind P r n start rule : Int) (xs : List Int) : ((planO kind P r n start rule xs).getD []).length ≤ 120 := by
  unfold planO
  by_cases h : validB kind P r n start rule = true ∧ xs.length ≤ 64
  · rw [if_pos h]
    obtain ⟨_, _, _, _, hn, _⟩ := valid_parts h.1
    cases hp : planF r (partI kind P n.toNat (payN P r n.toNat)) (dueT start rule xs) n.toNat 0 P with
    | none => simp
    | some rs => have := planF_len _ _ _ _ hp; simp; omega
  · rw [if_neg h]; simp

theorem blk_ne {base base' : Nat} {w w' : World} {x y : Value} {n m : Nat} {vs us : List Value} (hx : RowC base w x n vs) (hS : w.heap.size ≤ base') (hy : RowC base' w' y m us) : (x.ownBlock = none ∨ x.ownBlock ≠ y.ownBlock) ∧ (y.ownBlock = none ∨ y.ownBlock ≠ x.ownBlock) := by
  cases h1 : x.ownBlock with
  | none => exact ⟨.inl rfl, by cases h2 : y.ownBlock <;> simp⟩
  | some k =>
    have l1 := (World.ownsRow.lt hx k h1).2
    cases h2 : y.ownBlock with
    | none => exact ⟨.inr (by simp), .inl rfl⟩
    | some j =>
      have l2 := (World.ownsRow.lt hy j h2).1
      exact ⟨.inr (by simp; omega), .inr (by simp; omega)⟩

/-- 'append([]T{}, u...)'. -/
theorem wpList_keep {P : Program} {wr : World} {ops : Array Oper} {rest : List Oper} {o : Oper} {a : Act} {Q : Exit → Act → World → Prop} (hgd : o.guard = none) (s x : Operand) (t : TypeId)
    (ho : o.op = .call { callee := .builtin .append, args := #[s, x], argTypes := #[t, t] })
    (i : TypeInfo) (ht : P.underlying t = some (.slice 30)) (hi : P.info? 30 = some i) (z : Value) (hz : i.zero = some z) (hzc : z.cells.size = 4) (hsize : i.size = 4) (hby : i.bytes = 32)
    (base m : Nat) (u : Value) (us : List Value) (hs : a.eval s = .slice (some ⟨wr.heap.size, 0, none⟩) 0 0) (hx : a.eval x = u) (hu : RowC base wr u m us) (hm : m ≤ 120) (h1c : ∀ y ∈ us, y.oneCell' = true)
    (h : ∀ v' w', RowC wr.heap.size w' v' m us → Below wr.heap.size wr w' → wpList P ops Q rest (a.put o.dst v') w') :
    wpList P ops Q (o :: rest) a (wr.alloc (.cells #[] 30)) := by
  have hlit : RowC wr.heap.size (wr.alloc (.cells #[] 30)) (.slice (some ⟨wr.heap.size, 0, none⟩) 0 0) 0 [] := World.ownsRow_lit wr #[] 0 (Nat.le_refl _) (Nat.zero_le _) rfl
  have hB : Below wr.heap.size wr (wr.alloc (.cells #[] 30)) := (Below.refl _ _).alloc (Nat.le_refl _) _
  rcases hu.2 with ⟨rfl, rfl⟩ | ⟨gu, cu, curu, rfl, hbu, hgu, hnu, hmu, hsu, htu⟩
  · obtain rfl : us = [] := List.length_eq_zero_iff.1 (by simpa using hu.1)
    have hr := run_append_owned_none (P := P) (wr.alloc (.cells #[] 30)) wr.heap.size t o.type 30 i 4 ht hi _ 0 [] hlit
    refine wpList_plain hgd fun K hK => ?_
    unfold Oper.wp execOp
    simp only [ho, resolve, invoke, builtin, Sem.run_bind, Sem.run_pure, Result.andThen_ok, List.map_toArray, List.map_cons, List.map_nil, hs, hx, hr]
    exact hK _ _ (h _ _ hlit hB)
  · refine wpList_append_own _ hgd s x t ho wr.heap.size _ i z 4 32 ht hi hz hsize hby hzc (by decide) _ 0 [] hs hlit ⟨gu, 0, none⟩ m cu us hx hu.1 (fun j y hj => (World.ownsRow.cells (World.ownsRow.alloc hu _) rfl) j y hj) h1c (by unfold maxLen; omega) (by omega) (by simp) ?_
    intro v' w' hown' hgrow _
    rw [Nat.zero_add, List.nil_append] at hown'
    exact h v' w' hown' (hB.grown hgrow (by simp) (fun k hk => by simp [Value.ownBlock] at hk; omega))

/-- A row's four cells, written. -/
def set4 (vs : List Value) (k : Nat) (a b c d : Value) : List Value := (((vs.set (k * 4) a).set (k * 4 + 1) b).set (k * 4 + 2) c).set (k * 4 + 3) d
theorem four_set {base g n cap : Nat} {vs : List Value} {w : World} (h : RowC base w (.slice (some ⟨g, 0, none⟩) n cap) n vs) (k : Nat) (a b c d : Value) :
    RowC base ((((w.setCell ⟨g, k * 4, none⟩ a).setCell ⟨g, k * 4 + 1, none⟩ b).setCell ⟨g, k * 4 + 2, none⟩ c).setCell ⟨g, k * 4 + 3, none⟩ d) (.slice (some ⟨g, 0, none⟩) n cap) n (set4 vs k a b c d) ∧
      w.grownBy ((((w.setCell ⟨g, k * 4, none⟩ a).setCell ⟨g, k * 4 + 1, none⟩ b).setCell ⟨g, k * 4 + 2, none⟩ c).setCell ⟨g, k * 4 + 3, none⟩ d) (some g) := by
  obtain ⟨h1, g1⟩ := World.ownsRow.stored h (k * 4) a
  obtain ⟨h2, g2⟩ := World.ownsRow.stored h1 (k * 4 + 1) b
  obtain ⟨h3, g3⟩ := World.ownsRow.stored h2 (k * 4 + 2) c
  obtain ⟨h4, g4⟩ := World.ownsRow.stored h3 (k * 4 + 3) d
  exact ⟨h4, grownBy_trans (grownBy_trans g1 g2) (grownBy_trans g3 g4)⟩
theorem mark_set (vs : List Value) (k : Nat) (a b c d : Value) (hk : k * 4 + 3 < vs.length) (hm : ∀ i, i < k → vs[i * 4]? = some a) : ∀ i, i < k + 1 → (set4 vs k a b c d)[i * 4]? = some a := by
  intro i hi
  unfold set4
  rw [List.getElem?_set_ne (by omega), List.getElem?_set_ne (by omega), List.getElem?_set_ne (by omega)]
  by_cases e : i = k
  · subst e; rw [List.getElem?_set_self (by omega)]
  · rw [List.getElem?_set_ne (by omega)]; exact hm i (by omega)
theorem set4_length (vs : List Value) (k : Nat) (a b c d : Value) : (set4 vs k a b c d).length = vs.length := by simp [set4]

/-- What stays where one row is written to. -/
theorem TermsAt.grown {kind P r n start rule : Int} {bb : Nat} {w w' : World} {row : Option Nat} (h : TermsAt kind P r n start rule bb w) (hg : w.grownBy w' row) (hne : some bb ≠ row) : TermsAt kind P r n start rule bb w' :=
  ⟨hg.cell h.c0 hne, hg.cell h.c1 hne, hg.cell h.c2 hne, hg.cell h.c3 hne, hg.cell h.c4 hne, hg.cell h.c5 hne⟩
theorem blk_low {base n bb : Nat} {w : World} {v : Value} {vs : List Value} (h : RowC base w v n vs) (hb : bb < base) : some bb ≠ v.ownBlock := by
  intro e
  have := (World.ownsRow.lt h bb e.symm).1
  omega
theorem up_grown {base n : Nat} {w w1 w2 : World} {v : Value} {vs : List Value} (hu : Up w w1) (h : RowC base w1 v n vs) (hb : w.heap.size ≤ base) (hg : w1.grownBy w2 v.ownBlock) : Up w w2 :=
  Below.grown hu hg (Below.size hu) (fun k hk => Nat.le_trans hb (World.ownsRow.lt h k hk).1)
theorem RowC.slice {base n : Nat} {w : World} {v : Value} {vs : List Value} (h : RowC base w v n vs) : ∃ s q, v = .slice s n q := by
  rcases h.2 with ⟨rfl, rfl⟩ | ⟨g, cap, _, rfl, _⟩
  · exact ⟨_, _, rfl⟩
  · exact ⟨_, _, rfl⟩
theorem RowC.inst {base N : Nat} {w : World} {s : Option Addr} {q : Nat} {rs : List R3} (hN : rs.length = N) (h : RowC base w (.slice s N q) N (rs.flatMap instC)) : InstOk w s rs := by
  subst hN
  obtain ⟨s', q', hv, I⟩ := RowI.form2 (show RowI base w (.slice s rs.length q) rs from h)
  simp only [Value.slice.injEq] at hv
  obtain ⟨rfl, _, _⟩ := hv
  exact I

abbrev Apart (x y : Value) : Prop := x.ownBlock = none ∨ x.ownBlock ≠ y.ownBlock
/-- The five rows lie apart. -/
structure FrD (va vb vc v7 v8 : Value) : Prop where
  ab : Apart va vb
  ac : Apart va vc
  ba : Apart vb va
  bc : Apart vb vc
  ca : Apart vc va
  cb : Apart vc vb
  ka : Apart v7 va
  kb : Apart v7 vb
  kc : Apart v7 vc
  la : Apart v8 va
  lb : Apart v8 vb
  lc : Apart v8 vc
/-- What is known of the world on the way. -/
structure FrS (kind P r n start rule : Int) (bb : Nat) (w : World) (N M : Nat) (fa fb : List Value) (BB : Nat) (va vb vc v7 v8 : Value) (vsA vsC : List Value) (wr : World) : Prop where
  up : Up w wr
  low : w.heap.size ≤ BB
  sz : BB ≤ wr.heap.size
  bbl : bb < BB
  ta : TermsAt kind P r n start rule bb wr
  ra : RowC BB wr va N vsA
  rb : RowC BB wr vb M fb
  rc : RowC BB wr vc N vsC
  ka : RowC BB wr v7 N fa
  kb : RowC BB wr v8 M fb
section
variable {kind P r n start rule : Int} {bb : Nat} {w : World} {N M : Nat} {fa fb : List Value} {BB : Nat} {va vb vc v7 v8 : Value} {vsA vsC vs' : List Value} {wr w' : World}
theorem FrS.a (D : FrD va vb vc v7 v8) (h : FrS kind P r n start rule bb w N M fa fb BB va vb vc v7 v8 vsA vsC wr) (hr : RowC BB w' va N vs') (hg : wr.grownBy w' va.ownBlock) : FrS kind P r n start rule bb w N M fa fb BB va vb vc v7 v8 vs' vsC w' :=
  ⟨up_grown h.up h.ra h.low hg, h.low, Nat.le_trans h.sz hg.size, h.bbl, h.ta.grown hg (blk_low h.ra h.bbl), hr, World.ownsRow.kept h.rb hg D.ba, World.ownsRow.kept h.rc hg D.ca, World.ownsRow.kept h.ka hg D.ka, World.ownsRow.kept h.kb hg D.la⟩
theorem FrS.c (D : FrD va vb vc v7 v8) (h : FrS kind P r n start rule bb w N M fa fb BB va vb vc v7 v8 vsA vsC wr) (hr : RowC BB w' vc N vs') (hg : wr.grownBy w' vc.ownBlock) : FrS kind P r n start rule bb w N M fa fb BB va vb vc v7 v8 vsA vs' w' :=
  ⟨up_grown h.up h.rc h.low hg, h.low, Nat.le_trans h.sz hg.size, h.bbl, h.ta.grown hg (blk_low h.rc h.bbl), World.ownsRow.kept h.ra hg D.ac, World.ownsRow.kept h.rb hg D.bc, hr, World.ownsRow.kept h.ka hg D.kc, World.ownsRow.kept h.kb hg D.lc⟩
theorem FrS.b (D : FrD va vb vc v7 v8) (h : FrS kind P r n start rule bb w N M fa fb BB va vb vc v7 v8 vsA vsC wr) (hr : RowC BB w' vb M fb) (hg : wr.grownBy w' vb.ownBlock) : FrS kind P r n start rule bb w N M fa fb BB va vb vc v7 v8 vsA vsC w' :=
  ⟨up_grown h.up h.rb h.low hg, h.low, Nat.le_trans h.sz hg.size, h.bbl, h.ta.grown hg (blk_low h.rb h.bbl), World.ownsRow.kept h.ra hg D.ab, hr, World.ownsRow.kept h.rc hg D.cb, World.ownsRow.kept h.ka hg D.kb, World.ownsRow.kept h.kb hg D.lb⟩
theorem FrS.dr (h : FrS kind P r n start rule bb w N M fa fb BB va vb vc v7 v8 vsA vsC wr) (m : Nat) : FrS kind P r n start rule bb w N M fa fb BB va vb vc v7 v8 vsA vsC (wr.drewN m) :=
  ⟨up_drewN h.up m, h.low, h.sz, h.bbl, h.ta.up (up_drewN (Up.refl _) m), h.ra, h.rb, h.rc, h.ka, h.kb⟩
theorem RowC.up {base k : Nat} {x y : World} {v : Value} {us : List Value} (h : RowC base x v k us) (hb : Up x y) : RowC base y v k us := by
  refine World.ownsRow.kept (row := none) h (grownBy_below hb none) ?_
  cases hv : v.ownBlock <;> simp
theorem RowC.low {base base' k : Nat} {x : World} {v : Value} {us : List Value} (h : RowC base x v k us) (hb : base' ≤ base) : RowC base' x v k us := by
  refine ⟨h.1, ?_⟩
  rcases h.2 with hn | ⟨g, cap, cur, hv, hg, rest⟩
  · exact .inl hn
  · exact .inr ⟨g, cap, cur, hv, Nat.le_trans hb hg, rest⟩
theorem FrS.u (h : FrS kind P r n start rule bb w N M fa fb BB va vb vc v7 v8 vsA vsC wr) (hu : Up wr w') : FrS kind P r n start rule bb w N M fa fb BB va vb vc v7 v8 vsA vsC w' :=
  ⟨h.up.trans hu, h.low, Nat.le_trans h.sz (Below.size hu), h.bbl, h.ta.up hu, h.ra.up hu, h.rb.up hu, h.rc.up hu, h.ka.up hu, h.kb.up hu⟩
end

/-- A plan without holidays. -/
theorem plan_nil (kind P r n start rule : Int) (N : Nat) (rs : List R3) (ok : Bool) (hN : rs.length = N) (hrs : (planO kind P r n start rule []).getD [] = rs) (hok : (planO kind P r n start rule []).isSome = ok) (w : World) (hA : TabA w) (hL : TabL w) :
    Calls Tryd.prog 6 #[termsV kind P r n start rule, .slice none 0 0] w fun e w' => ∃ s q, e = .returned (.tuple #[.slice s N q, .bool ok]) ∧ RowI w.heap.size w' (.slice s N q) rs ∧ Up w w' := by
  refine (plan_at kind P r n start rule [] none 0 w hA hL (slOk_nil w)).mono ?_
  rintro e w1 ⟨U, v, rfl, hans⟩
  have hr := hans.row
  rw [hrs] at hr
  obtain ⟨s, q, hv, _⟩ := RowI.form2 hr
  rw [hN] at hv
  subst hv
  rw [hok]
  exact ⟨s, q, rfl, hr, U⟩
end Go.Proofs.YtkabfdajpilomabDoor
