/-
  Ours: StatementFresh walked (gen_stfr.py).
-/
import Derived.Test.YtmennknknecgjaaDoorStRow
import Derived.Test.YtmennknknecgjaaDoorStLit
import Derived.Test.YtmennknknecgjaaDoorStRLns
import Derived.Test.YtmennknknecgjaaDoorStSln
import Derived.Test.YtmennknknecgjaaDoorFrmApp
namespace Go.Proofs.YtmennknknecgjaaDoor
open Go.RowKit LedM StM

namespace StM
/-- The mark behind the movements. -/
def mkM : List Int := [-7, -7, 0, 0, 0, 0, 0, 0, 0, 0, 0, 0, 0, 0]
theorem mk_ok : MoOk mkM := ⟨rfl, fun k => by
  have h : ∀ x ∈ mkM, i64 x := by
    intro x hx
    unfold mkM at hx
    simp at hx
    unfold i64
    omega
  rw [List.getD_eq_getElem?_getD]
  by_cases hk : k < mkM.length
  · rw [List.getElem?_eq_getElem hk]; exact h _ (List.getElem_mem hk)
  · rw [List.getElem?_eq_none (by omega)]; exact ⟨by simp, by simp⟩⟩
end StM
/-- What copied answers. -/
def CopAns (ms : List (List Int)) (w : World) (e : Ending) (w' : World) : Prop := ∃ g c, e = .returned (.slice (some ⟨g, 0, none⟩) (ms.length + 1) c) ∧ RowMo w.heap.size w' (.slice (some ⟨g, 0, none⟩) (ms.length + 1) c) (ms ++ [mkM]) ∧ Below w.heap.size w w'
set_option maxRecDepth 20000 in
set_option maxHeartbeats 4000000 in
theorem copied_at (ms : List (List Int)) (v : Value) (w : World) (h : RdMo w v ms) (ht : T14 ms) (hn : ms.length ≤ 1000000) : Calls Tryd.prog 5 #[v] w (CopAns ms w) := by
  obtain ⟨i0, hi0, hz0, hz1, hz2⟩ := info_parts infoM14
  have RD : Hid (∀ w', Below w.heap.size w w' → RdMo w' v ms) := fun w' hb => h.later hb
  obtain ⟨ao, cap, rfl, hcap, hno, _⟩ := h
  have CE : Hid (∀ w', Below w.heap.size w w' → ∀ i m, ms[i]? = some m → ∃ g o, ao = some ⟨g, o, none⟩ ∧ w'.rangeAt g (o + i * 14) (bkL m)) := fun w' hb i m hi => by
    obtain ⟨ao', cap', e, _, _, H⟩ := RD.out w' hb
    injection e with e1 e2 e3
    subst e1
    obtain ⟨g, o, e, _, r⟩ := H i m hi
    exact ⟨g, o, e, r⟩
  obtain ⟨L, hL⟩ : ∃ L, ms.length = L := ⟨_, rfl⟩
  have HL : Hid (ms.length = L) := hL
  have GI : Hid (∀ i, i < L → ∃ m, ms[i]? = some m ∧ m.length = 14) := fun i hi => ⟨_, List.getElem?_eq_getElem (by omega), ht _ (List.getElem_mem (by omega))⟩
  have TL : Hid (∀ k, k ≤ L → (ms.take k).length = k) := fun k hk => by rw [List.length_take]; omega
  unfold CopAns
  rw [hL] at hcap hn ⊢
  clear RD hL hno
  go_enter Tryd.func5, Tryd.ntmps5
  go_wp2_with fail
  go_loopw [3, 4] (fun vl vk wr => ∃ (k : Nat) (la : Option Addr) (ln lc : Nat), vk = .int .i64 (k : Int) ∧ vl = .slice la ln lc ∧ k ≤ L ∧ RowMo w.heap.size wr (.slice la ln lc) (ms.take k) ∧ Below w.heap.size w wr) (fun _ vk _ => L - (intOf vk).toNat)
  case atStart => exact ⟨0, none, 0, 0, rfl, rfl, by omega, RowMo.nil _ _, Below.refl _ _⟩
  case round =>
    obtain ⟨k, la, ln, lc, rfl, rfl, hk, hro, hbw⟩ := hrel
    have bsz : w.heap.size ≤ wr.heap.size := hbw.size
    have HB : Hid (Below w.heap.size w wr) := hbw
    have OW : Hid (wr.ownsRow w.heap.size 29 14 (.slice la ln lc) k (bksL (ms.take k))) := by
      have := hro
      unfold RowMo at this
      rw [TL.out k hk] at this
      exact this
    by_cases hlt : (k : Int) < (L : Int)
    · obtain ⟨m, hm, hml⟩ := GI.out k (by omega)
      obtain ⟨g, o, rfl, rg⟩ := CE.out wr hbw k m hm
      have RG : Hid (wr.rangeAt g (o + k * 14) (bkL m)) := rg
      have TS : Hid (bksL (ms.take (k + 1)) = bksL (ms.take k) ++ bkL m) := by show _ = _; rw [take_push hm, msL_push]
      have ML : Hid ((bkL m).length = 14) := by show _ = _; rw [bkL_len, hml]
      have IM : Hid ((Tryd.prog.info? 29).map (·.size) = some (bkL m).length) := infoMl hml
      have l1 : k + 1 ≤ maxLen := by unfold maxLen; omega
      have l2 : (k + 1) * 112 ≤ 140737488355328 := by omega
      clear rg hro hbw hm hml
      go_wp2_with (first
        | (refine step_load rfl 29 _ rfl g (o + k * 14) rfl (bkL m) _ RG.out Tryd.underlying29 rfl IM.out ?_)
        | (refine at_slice ?_; refine step_slice1 rfl 22 29 _ rfl i0 (.agg #[.int .i64 0, .int .i64 0, .int .i64 0, .int .i64 0, .int .i64 0, .int .i64 0, .int .i64 0, .int .i64 0, .int .i64 0, .int .i64 0, .int .i64 0, .int .i64 0, .int .i64 0, .int .i64 0]) 14 (by decide) Tryd.underlying22 hi0 hz0 hz1 (by decide) (bkL m) ML.out rfl ?_)
        | (at_builtin; refine wpList_pushR rfl (.tmp 11) (.tmp 16) 22 rfl 29 i0 (.agg #[.int .i64 0, .int .i64 0, .int .i64 0, .int .i64 0, .int .i64 0, .int .i64 0, .int .i64 0, .int .i64 0, .int .i64 0, .int .i64 0, .int .i64 0, .int .i64 0, .int .i64 0, .int .i64 0]) 14 112 Tryd.underlying22 hi0 hz0 hz1 hz2 rfl (by decide) w.heap.size (.slice la ln lc) k (bksL (ms.take k)) (bkL m) ML.out (bkL_one m) rfl OW.out bsz rfl l1 l2 ?_; intro g7 n7 c7 w7 o7 gr7 _))
      have R7 : Hid (RowMo w.heap.size w7 (.slice g7 n7 c7) (ms.take (k + 1)) ∧ Below w.heap.size w w7) := ⟨by unfold RowMo; rw [TL.out (k + 1) (by omega), TS.out]; exact o7, HB.out.grown gr7 bsz (fun x e => (World.ownsRow.lt OW.out x e).1)⟩
      clear o7 gr7 OW HB TS
      go_roundw
      case rel => exact ⟨k + 1, _, _, _, by go_num, rfl, by omega, R7.out⟩
      case measure => simp [intOf]; omega
    · obtain rfl : k = L := by omega
      have e1 : ms.take k = ms := List.take_of_length_le (by rw [HL.out]; exact Nat.le_refl _)
      rw [e1] at OW
      have l1 : k + 1 ≤ maxLen := by unfold maxLen; omega
      have l2 : (k + 1) * 112 ≤ 140737488355328 := by omega
      have KF : Hid (∀ w9 v9, w9.ownsRow w.heap.size 29 14 v9 (k + 1) (bksL ms ++ bkL mkM) → ∃ g c, v9 = .slice (some ⟨g, 0, none⟩) (k + 1) c ∧ RowMo w.heap.size w9 (.slice (some ⟨g, 0, none⟩) (k + 1) c) (ms ++ [mkM])) := fun w9 v9 h9 => by
        have h9' := h9
        rcases h9.2 with ⟨_, h0⟩ | ⟨g, c, cur, rfl, _⟩
        · omega
        · refine ⟨g, c, rfl, ?_⟩
          unfold RowMo
          rw [List.length_append, HL.out, msL_push]
          exact h9'
      clear hro hbw CE GI TL HL e1 ht
      go_wp2_with (at_builtin; refine wpList_pushR rfl (.tmp 18) (.tmp 20) 22 rfl 29 i0 (.agg #[.int .i64 0, .int .i64 0, .int .i64 0, .int .i64 0, .int .i64 0, .int .i64 0, .int .i64 0, .int .i64 0, .int .i64 0, .int .i64 0, .int .i64 0, .int .i64 0, .int .i64 0, .int .i64 0]) 14 112 Tryd.underlying22 hi0 hz0 hz1 hz2 rfl (by decide) w.heap.size (.slice la ln lc) k (bksL ms) (bkL mkM) rfl (bkL_one mkM) rfl OW.out bsz rfl l1 l2 ?_; intro g7 n7 c7 w7 o7 gr7 _)
      go_ret
      obtain ⟨g, c, e, r⟩ := KF.out _ _ o7
      rw [e]
      exact ⟨g, c, rfl, r, HB.out.grown gr7 bsz (fun x e => (World.ownsRow.lt OW.out x e).1)⟩
end Go.Proofs.YtmennknknecgjaaDoor

namespace Go.Proofs.YtmennknknecgjaaDoor
open Go.RowKit LedM StM CalM

/-- Movements of the call's own: whole, and cut in front of their mark. -/
theorem cop_own {ms : List (List Int)} {w w1 : World} {e : Ending} (t15 : T14 (ms ++ [mkM])) (h : CopAns ms w e w1) : ∃ g c, e = .returned (.slice (some ⟨g, 0, none⟩) (ms.length + 1) c) ∧ ms.length + 1 ≤ c ∧ RdMo w1 (.slice (some ⟨g, 0, none⟩) ms.length c) ms ∧ RowMo w.heap.size w1 (.slice (some ⟨g, 0, none⟩) (ms.length + 1) c) (ms ++ [mkM]) ∧ Below w.heap.size w w1 := by
  obtain ⟨g, c, rfl, r, b⟩ := h
  have n1 := r.rd t15
  have tm : (ms ++ [mkM]).take ms.length = ms := by rw [List.take_append_of_le_length (Nat.le_refl _), List.take_of_length_le (Nat.le_refl _)]
  have n2 := n1.take (k := ms.length) (by omega)
  rw [tm] at n2
  refine ⟨g, c, rfl, ?_, n2, r, b⟩
  obtain ⟨_, _, e1, hc1, _⟩ := n1.len
  injection e1 with _ _ e1
  subst e1
  rwa [List.length_append, List.length_singleton] at hc1
set_option maxRecDepth 20000 in
set_option maxHeartbeats 4000000 in
theorem lines_any (ms : List (List Int)) (a b : Int) (v : Value) (w : World) (ha : -9223372036854775808 ≤ a ∧ a ≤ 9223372036854775807) (h : RdMo w v ms) (ok : ∀ m ∈ ms, MoOk m) (hT : TabS w) : Calls Tryd.prog 4 #[v, .int .i64 a, .int .i64 b] w fun e w' => e = .returned (.bool true) ∧ Below w.heap.size w w' := by
  obtain ⟨D, HD⟩ := day_at
  obtain ⟨L, hL⟩ : ∃ L, ms.length = L := ⟨_, rfl⟩
  have RD : Hid (∀ w', Below w.heap.size w w' → RdMo w' v ms) := fun w' hb => h.later hb
  have HL : Hid (ms.length = L) := hL
  obtain ⟨ao, cap, e, hcap, hno⟩ := h.len
  subst e
  rw [hL] at hcap RD ⊢
  clear h hL
  by_cases hn : (L : Int) > 4000
  · clear RD HL HD
    go_enter Tryd.func4, Tryd.ntmps4
    go_wp2_with fail
    go_ret
    exact ⟨rfl, Below.refl _ _⟩
  have hl : ms.length ≤ 4000 := by rw [HL.out]; omega
  have t14 : T14 ms := T14.of_ok ok
  have T15 : Hid (T14 (ms ++ [mkM])) := t14.app (T14.one rfl)
  have CP : Hid (∀ w', Below w.heap.size w w' → Calls Tryd.prog 5 #[.slice ao L cap] w' (CopAns ms w')) := fun w' hb => copied_at ms _ w' (RD.out w' hb) t14 (by omega)
  have LP : Hid (∀ v' w', RdMo w' v' ms → Below w.heap.size w w' → Calls Tryd.prog 8 #[v', .int .i64 a, .int .i64 b] w' (LnsAns D ms a b w')) := fun v' w' hr hb => lines_at D HD ms a b ha.1 ha.2 v' w' hr ok (by omega) (hT.later hb)
  have LR : Hid (∀ v' w', RdMo w' v' ms → Below w.heap.size w w' → Calls Tryd.prog 10 #[v', .int .i64 a, .int .i64 b] w' (LnsAns D ms a b w')) := fun v' w' hr hb => rlines_at D HD ms a b ha.1 ha.2 v' w' hr ok (by omega) (hT.later hb)
  have SM : Hid (∀ va vb w', RdMo w' va (ms ++ [mkM]) → RdMo w' vb (ms ++ [mkM]) → Calls Tryd.prog 7 #[va, vb] w' fun e w2 => e = .returned (.bool true) ∧ ∃ n, w2 = w'.drewN n) := fun va vb w' ha hb => sameM_yes _ va vb w' (by rw [List.length_append, List.length_singleton]; omega) (fun m hm => by
    rcases List.mem_append.1 hm with hm | hm
    · exact ok m hm
    · rw [List.mem_singleton.1 hm]; exact mk_ok) ha hb
  have ll : (if lnsOk ms a b then lnsL D ms a b else []).length ≤ 5000 := by
    split
    · unfold lnsL
      have := win_le ms a b
      simp
      omega
    · simp
  have ST : Hid (∀ va vb w', Rd w' va (txL (if lnsOk ms a b then lnsL D ms a b else [])) → Rd w' vb (txL (if lnsOk ms a b then lnsL D ms a b else [])) → Calls Tryd.prog 9 #[va, vb] w' fun e w2 => e = .returned (.bool true) ∧ ∃ n, w2 = w'.drewN n) := fun va vb w' ha hb => sameT_yes _ va vb w' (by omega) ha hb
  unfold LnsAns at LP LR
  generalize (if lnsOk ms a b then lnsL D ms a b else []) = TX at *
  generalize lnsOk ms a b = K at *
  clear hl t14 ok HD hT ll
  go_enter Tryd.func4, Tryd.ntmps4
  go_wp2_with fail
  refine (CP.out w (Below.refl _ _)).mono ?_
  intro e w1 hc
  obtain ⟨g1, c1, rfl, hc1, n1, r1, b1⟩ := cop_own T15.out hc
  rw [HL.out] at hc1 n1 r1 ⊢
  have R1 : Hid (RowMo w.heap.size w1 (.slice (some ⟨g1, 0, none⟩) (L + 1) c1) (ms ++ [mkM]) ∧ Below w.heap.size w w1) := ⟨r1, b1⟩
  have LA : Hid (Calls _ _ _ _ _) := LP.out _ _ n1 b1
  clear hc n1 r1 b1 LP
  go_wp2_with fail
  refine LA.out.mono ?_
  rintro e w2 ⟨v2, rfl, r2, b2⟩
  have R2 : Hid (RowMo w.heap.size w2 (.slice (some ⟨g1, 0, none⟩) (L + 1) c1) (ms ++ [mkM]) ∧ Below w.heap.size w w2 ∧ Rd w2 v2 (txL TX)) := ⟨R1.out.1.later b2, below_trans R1.out.2 b2, r2.rd⟩
  clear LA r2 b2 R1
  have LB : Hid (Calls _ _ _ _ _) := LR.out _ w2 (RD.out w2 R2.out.2.1) R2.out.2.1
  clear LR
  go_wp2_with fail
  refine LB.out.mono ?_
  rintro e w3 ⟨v3, rfl, r3, b3⟩
  have R3 : Hid (RowMo w.heap.size w3 (.slice (some ⟨g1, 0, none⟩) (L + 1) c1) (ms ++ [mkM]) ∧ Below w.heap.size w w3 ∧ Rd w3 v2 (txL TX) ∧ Rd w3 v3 (txL TX)) := ⟨R2.out.1.later b3, below_trans R2.out.2.1 b3, R2.out.2.2.later b3, r3.rd⟩
  clear LB r3 b3 R2
  have SA : Hid (Calls _ _ _ _ _) := ST.out _ _ w3 R3.out.2.2.1 R3.out.2.2.2
  have kk : (K == K) = true := by simp
  clear ST
  go_wp2_with fail
  refine SA.out.mono ?_
  rintro e w4 ⟨rfl, n4, rfl⟩
  have CA : Hid (Calls _ _ _ _ _) := CP.out (w3.drewN n4) (below_drewN R3.out.2.1 n4)
  clear SA CP
  go_wp2_with fail
  refine CA.out.mono ?_
  rintro e w6 ⟨g6, c6, rfl, r6, b6⟩
  have b36 : Below w3.heap.size w3 w6 := below_trans (below_drewN (Below.refl _ _) n4) b6
  have SB : Hid (Calls _ _ _ _ _) := SM.out _ _ w6 ((R3.out.1.later b36).rd T15.out) (r6.rd T15.out)
  have W6 : Hid (Below w.heap.size w w6) := below_trans R3.out.2.1 b36
  rw [HL.out] at SB ⊢
  clear r6 b6 b36 R3 CA SM
  go_wp2_with fail
  refine SB.out.mono ?_
  rintro e w7 ⟨rfl, n, rfl⟩
  clear SB
  go_wp2_with fail
  go_ret
  exact ⟨rfl, below_drewN W6.out n⟩
end Go.Proofs.YtmennknknecgjaaDoor

namespace Go.Proofs.YtmennknknecgjaaDoor
open Go.RowKit LedM StM

/-- A row laid behind another. -/
theorem wpList_catG {P : Program} {wr : World} {ops : Array Oper} {rest : List Oper} {o : Oper} {a : Act} {Q : Exit → Act → World → Prop} (hgd : o.guard = none) (s x : Operand) (t : TypeId)
    (ho : o.op = .call { callee := .builtin .append, args := #[s, x], argTypes := #[t, t] })
    (e : TypeId) (i : TypeInfo) (z : Value) (k by' : Nat) (ht : P.underlying t = some (.slice e)) (hi : P.info? e = some i) (hz : i.zero = some z) (hsize : i.size = k) (hby : i.bytes = by') (hzc : z.cells.size = k) (hk : 0 < k)
    (base : Nat) (v : Value) (n : Nat) (xs : List Value) (hs : a.eval s = v) (hown : wr.ownsRow base e k v n xs) (hsz : base ≤ wr.heap.size)
    (b2 : Nat) (xv : Value) (m : Nat) (news : List Value) (hx : a.eval x = xv) (hxo : wr.ownsRow b2 e k xv m news) (h1 : ∀ u ∈ news, u.oneCell' = true) (hl : n + m ≤ maxLen) (hl2 : (n + m) * by' ≤ 140737488355328)
    (h : ∀ v' w', w'.ownsRow base e k v' (n + m) (xs ++ news) → wr.grownBy w' v.ownBlock → wpList P ops Q rest (a.put o.dst v') w') :
    wpList P ops Q (o :: rest) a wr := by
  have hc := fun (g : Nat) (hg : xv.ownBlock = some g) => World.ownsRow.cells hxo hg
  have hnl := hxo.1
  rcases hxo.2 with ⟨rfl, rfl⟩ | ⟨g, cap, cur, rfl, _⟩
  · have hn0 : news = [] := List.eq_nil_of_length_eq_zero (by omega)
    subst hn0
    have hr : ∀ ty, (Builtin.append_ #[t, t] ty #[v, .slice none 0 0]).run P wr = .ok v wr := fun ty => run_append_owned_none (P := P) wr base t ty e i k ht hi v n xs hown
    refine wpList_plain hgd fun K hK => ?_
    unfold Oper.wp execOp
    simp only [ho, resolve, invoke, builtin, Sem.run_bind, Sem.run_pure, Result.andThen_ok, List.map_toArray, List.map_cons, List.map_nil, hs, hx, hr]
    exact hK _ _ (h _ _ (by simpa using hown) (grownBy_refl _ _))
  · exact wpList_append_own _ hgd s x t ho base e i z k by' ht hi hz hsize hby hzc hk v n xs hs hown ⟨g, 0, none⟩ m cap news hx hnl (hc g rfl) h1 hl hl2 hsz fun v' w' r g _ => h v' w' r g
theorem ownsRow_short {base g n m cap k : Nat} {e : TypeId} {w : World} {xs ys : List Value} (hn : xs.length = n * k) (h : w.ownsRow base e k (.slice (some ⟨g, 0, none⟩) (n + m) cap) (n + m) (xs ++ ys)) : w.ownsRow base e k (.slice (some ⟨g, 0, none⟩) n cap) n xs := by
  refine ⟨hn, ?_⟩
  rcases h.2 with ⟨hv, _⟩ | ⟨g', cap', cur, hv, hb, hg, hnc, hm, hcs, htk⟩
  · cases hv
  · injection hv with e1 e2 e3
    injection e1 with e1
    injection e1 with e1 _ _
    subst e1 e3
    refine .inr ⟨g, cap, cur, rfl, hb, hg, by omega, hm, hcs, ?_⟩
    have h3 := congrArg (List.take (n * k)) htk
    rw [List.take_take, Nat.min_eq_left (Nat.mul_le_mul_right k (by omega))] at h3
    exact h3.trans (List.take_left' hn)
theorem ownsRow_kept {base k n : Nat} {e : TypeId} {w w' : World} {v : Value} {xs : List Value} {row : Option Nat} (h : w.ownsRow base e k v n xs) (hb : w.grownBy w' row) (hn : ∀ g, v.ownBlock = some g → row ≠ some g) : w'.ownsRow base e k v n xs := by
  refine World.ownsRow.kept h hb ?_
  cases hv : v.ownBlock with
  | none => exact .inl rfl
  | some g => exact .inr fun e => hn g hv e.symm
theorem ownsRow_later {base k n : Nat} {e : TypeId} {w w' : World} {v : Value} {xs : List Value} (h : w.ownsRow base e k v n xs) (hb : Below w.heap.size w w') : w'.ownsRow base e k v n xs :=
  ownsRow_kept h (grownBy_below hb none) (fun _ _ => by simp)
/-- One element laid behind a row; the row itself stays as it was. -/
theorem wpList_pushF {P : Program} {wr : World} {ops : Array Oper} {rest : List Oper} {o : Oper} {a : Act} {Q : Exit → Act → World → Prop} (hgd : o.guard = none) (s x : Operand) (t : TypeId)
    (ho : o.op = .call { callee := .builtin .append, args := #[s, x], argTypes := #[t, t] })
    (e : TypeId) (i : TypeInfo) (z : Value) (k by' : Nat) (ht : P.underlying t = some (.slice e)) (hi : P.info? e = some i) (hz : i.zero = some z) (hsize : i.size = k) (hby : i.bytes = by') (hzc : z.cells.size = k) (hk : 0 < k)
    (base : Nat) (v : Value) (n : Nat) (vs cs : List Value) (hc : cs.length = k) (hy : ∀ u ∈ cs, u.oneCell' = true) (hs : a.eval s = v) (hown : wr.ownsRow base e k v n vs) (hsz : base ≤ wr.heap.size)
    (hx : a.eval x = .slice (some ⟨wr.heap.size, 0, none⟩) 1 1) (hl : n + 1 ≤ maxLen) (hl2 : (n + 1) * by' ≤ 140737488355328)
    (h : ∀ g c w', w'.ownsRow base e k (.slice (some ⟨g, 0, none⟩) (n + 1) c) (n + 1) (vs ++ cs) → w'.ownsRow base e k v n vs → wr.grownBy w' v.ownBlock → wpList P ops Q rest (a.put o.dst (.slice (some ⟨g, 0, none⟩) (n + 1) c)) w') :
    wpList P ops Q (o :: rest) a (wr.alloc (.cells cs.toArray e)) := by
  have hW : (wr.alloc (.cells cs.toArray e)).heap.size = wr.heap.size + 1 := by simp
  have hown2 := World.ownsRow.alloc hown (.cells cs.toArray e)
  obtain ⟨g2, cap2, w2, hr2, o2, gr, fate, _⟩ := run_append_old (P := P) (wr.alloc (.cells cs.toArray e)) t o.type base e i z k by' ht hi hz hsize hby hzc hk v n vs hown2 ⟨wr.heap.size, 0, none⟩ 1 1 cs (by omega) (fun j u hj => World.news_of_block (cs := cs.toArray) (t := e) (fr := (0, 0)) (MapKept.heap_alloc wr _).1 j u (by simpa using hj)) hy (by decide) hl hl2 (by omega) _ rfl
  refine wpList_plain hgd fun K hK => ?_
  unfold Oper.wp execOp
  simp only [ho, resolve, invoke, builtin, Sem.run_bind, Sem.run_pure, Result.andThen_ok, List.map_toArray, List.map_cons, List.map_nil, hs, hx, hr2]
  refine hK _ _ (h g2 cap2 w2 o2 ?_ ⟨gr.os, gr.tape, gr.output, Nat.le_trans (by simp) gr.size, fun k hk hn => ?_⟩)
  · rcases fate with e' | ⟨_, gn⟩
    · rw [e']; exact ownsRow_short hown.1 o2
    · exact ownsRow_kept hown2 gn (fun _ _ => by simp)
  · rw [gr.block k (by omega) hn]
    exact (below_alloc wr (.cells cs.toArray e)).block k hk
/-- One element of a row is written. -/
theorem ownsRow_put {base k n : Nat} {e : TypeId} {w : World} {v : Value} {xs : List Value} (h : w.ownsRow base e k v n xs) {i : Nat} (hi : i < n) : ∃ g cap zs, v = .slice (some ⟨g, 0, none⟩) n cap ∧ n ≤ cap ∧ Blk g e zs w ∧ i * k + k ≤ zs.length ∧ ∀ w' C, C.length = k → Blk g e (zs.take (i * k) ++ C ++ zs.drop (i * k + k)) w' → w'.ownsRow base e k v n (xs.take (i * k) ++ C ++ xs.drop (i * k + k)) := by
  have hik : i * k + k ≤ n * k := by rw [← Nat.succ_mul]; exact Nat.mul_le_mul_right k hi
  rcases h.2 with ⟨hv, h0⟩ | ⟨g, cap, cur, rfl, hb, hg, hn, hm, hcs, htk⟩
  · omega
  · have hlen : cur.toList.length = cap * k := by rw [Array.length_toList]; exact hcs
    have hnc : n * k ≤ cap * k := Nat.mul_le_mul_right k hn
    refine ⟨g, cap, cur.toList, rfl, hn, by unfold Blk; rw [hg], by omega, fun w' C hC hb' => ⟨?_, .inr ⟨g, cap, _, rfl, hb, hb', hn, hm, ?_, ?_⟩⟩⟩
    · rw [List.length_append, List.length_append, List.length_take, List.length_drop, h.1, hC]; omega
    · simp [hC]; omega
    · rw [← htk]
      generalize cur.toList = zs at *
      have e1 : (zs.take (i * k)).length = i * k := by rw [List.length_take]; omega
      have e2 : (zs.take (i * k) ++ C).length = i * k + k := by rw [List.length_append, e1, hC]
      have e3 : (zs.take (n * k)).take (i * k) = zs.take (i * k) := by rw [List.take_take, Nat.min_eq_left (by omega)]
      have e4 : (zs.take (n * k)).drop (i * k + k) = (zs.drop (i * k + k)).take (n * k - (i * k + k)) := by rw [List.drop_take]
      rw [e3, e4]
      show List.take (n * k) (zs.take (i * k) ++ C ++ zs.drop (i * k + k)) = _
      rw [List.take_append, e2, List.take_of_length_le (by rw [e2]; omega)]
namespace StM
/-- The first k elements filled. -/
def filM {α : Type} (ms : List α) (x : α) (k : Nat) : List α := List.replicate k x ++ ms.drop k
theorem filM_len {α : Type} (ms : List α) (x : α) (k : Nat) (h : k ≤ ms.length) : (filM ms x k).length = ms.length := by unfold filM; simp; omega
theorem filM_set {α : Type} {ms : List α} {x : α} {k : Nat} (h : k < ms.length) : (filM ms x k).set k x = filM ms x (k + 1) := by
  unfold filM
  rw [List.set_append_right _ _ (by simp), List.length_replicate, Nat.sub_self, List.drop_eq_getElem_cons h, List.set_cons_zero, List.replicate_succ', List.append_assoc]
  rfl
theorem filM_all {α : Type} (ms : List α) (x : α) : filM ms x ms.length = List.replicate ms.length x := by unfold filM; rw [List.drop_length]; simp
theorem set_split {α : Type} {ms : List α} {x : α} {k : Nat} (h : k < ms.length) : ms.set k x = ms.take k ++ [x] ++ ms.drop (k + 1) := by
  rw [List.set_eq_take_append_cons_drop, if_pos h]; simp
theorem txL_set {ts : List (List UInt8)} {x : List UInt8} {k : Nat} (h : k < ts.length) : (txL ts).take (k * 1) ++ [.string ⟨x.toArray⟩] ++ (txL ts).drop (k * 1 + 1) = txL (ts.set k x) := by
  rw [set_split h, Nat.mul_one]
  unfold txL
  simp
theorem msL_set {ms : List (List Int)} (t : T14 ms) {x : List Int} {k : Nat} (h : k < ms.length) : (bksL ms).take (k * 14) ++ bkL x ++ (bksL ms).drop (k * 14 + 14) = bksL (ms.set k x) := by
  have e : ms = ms.take k ++ [ms[k]] ++ ms.drop (k + 1) := by
    have := set_split (x := ms[k]) h
    rwa [List.set_getElem_self] at this
  have l1 : (bksL (ms.take k)).length = k * 14 := by rw [msL_len (t.take k), List.length_take]; rw [Nat.min_eq_left (by omega)]
  have l2 : (bkL ms[k]).length = 14 := by rw [bkL_len]; exact t _ (List.getElem_mem h)
  have f1 : bksL [ms[k]] = bkL ms[k] := by simp [bksL]
  have f2 : bksL [x] = bkL x := by simp [bksL]
  have e2 : bksL ms = bksL (ms.take k) ++ bkL ms[k] ++ bksL (ms.drop (k + 1)) := by
    rw [← f1, ← bksL_append, ← bksL_append, ← e]
  rw [set_split h, bksL_append, bksL_append, f2]
  congr 1
  · congr 1
    rw [e2, List.append_assoc, List.take_left' l1]
  · rw [e2, List.drop_left' (by rw [List.length_append, l1, l2])]
end StM
end Go.Proofs.YtmennknknecgjaaDoor

namespace Go.Proofs.YtmennknknecgjaaDoor
open Go.RowKit LedM StM CalM

namespace StM
def mD (d : Int) : List Int := [d, 0, 0, 0, 0, 0, 0, 0, 0, 0, 0, 0, 0, 0]
theorem t14_rep (d : Int) (n : Nat) : T14 (List.replicate n (mD d)) := fun m hm => by rw [List.eq_of_mem_replicate hm]; rfl
theorem t14_fil {ms : List (List Int)} (t : T14 ms) (d : Int) (k : Nat) : T14 (filM ms (mD d) k) := (t14_rep d k).app (fun m hm => t m (List.mem_of_mem_drop hm))
end StM
theorem addr_zero (g j : Nat) : (⟨g, 0, none⟩ : Addr).add j = ⟨g, j, none⟩ := by unfold Addr.add; split <;> simp_all
theorem ownsRow_empty {base g k : Nat} {e : TypeId} {w : World} (h : Blk g e [] w) (hb : base ≤ g) : w.ownsRow base e k (.slice (some ⟨g, 0, none⟩) 0 0) 0 [] := ⟨by simp, .inr ⟨g, 0, #[], rfl, hb, h, Nat.le_refl _, Nat.zero_le _, by simp, by simp⟩⟩
/-- The days of a row of movements of one kind. -/
theorem rep_day {base n : Nat} {w : World} {a : Option Addr} {c : Nat} {d : Int} (h : w.ownsRow base 29 14 (.slice a n c) n (bksL (List.replicate n (mD d)))) : ∀ i, i < n → ∃ g, a = some ⟨g, 0, none⟩ ∧ g < w.heap.size ∧ w.cell? ⟨g, i * 14, none⟩ = some (.int .i64 d) := fun i hi => by
  have hc := fun (g : Nat) (hg : (Value.slice a n c).ownBlock = some g) => World.ownsRow.cells h hg
  have hlt := fun (g : Nat) (hg : (Value.slice a n c).ownBlock = some g) => (World.ownsRow.lt h g hg).2
  rcases h.2 with ⟨hv, h0⟩ | ⟨g, cap, cur, hv, _⟩
  · omega
  · injection hv with e1 _ _
    subst e1
    refine ⟨g, rfl, hlt g rfl, ?_⟩
    have hm : (List.replicate n (mD d))[i]? = some (mD d) := by rw [List.getElem?_replicate, if_pos hi]
    have := hc g rfl (i * 14 + 0) (.int .i64 d) (by rw [msL_at (t14_rep d n) i 0 _ hm (by decide)]; rfl)
    rwa [addr_zero] at this
theorem push_day {base n g c : Nat} {w : World} {d : Int} {xs : List Value} (hx : xs.length = n * 14) (h : w.ownsRow base 29 14 (.slice (some ⟨g, 0, none⟩) (n + 1) c) (n + 1) (xs ++ bkL (mD d))) : g < w.heap.size ∧ w.cell? ⟨g, n * 14, none⟩ = some (.int .i64 d) := by
  refine ⟨(World.ownsRow.lt h g rfl).2, ?_⟩
  have := World.ownsRow.cells h (g := g) rfl (n * 14) (.int .i64 d) (by rw [List.getElem?_append_right (by omega), hx, Nat.sub_self]; rfl)
  rwa [addr_zero] at this
theorem mono_row {base base' : Nat} {w : World} {v : Value} {ms : List (List Int)} (h : RowMo base w v ms) (hb : base' ≤ base) : RowMo base' w v ms := by
  refine ⟨h.1, ?_⟩
  rcases h.2 with hn | ⟨g, cap, cur, hv, hg, rest⟩
  · exact .inl hn
  · exact .inr ⟨g, cap, cur, hv, Nat.le_trans hb hg, rest⟩
/-- What is kept of movements while one row of them is filled. -/
structure FrW (w : World) (lo hi : Nat) (v : Value) (n : Nat) (xs : List Value) (vm vk : Value) (ms ks : List (List Int)) (wr : World) : Prop where
  row : wr.ownsRow lo 29 14 v n xs
  top : ∀ g, v.ownBlock = some g → g < hi
  own : RowMo w.heap.size wr vm ms
  low : ∀ g, vm.ownBlock = some g → g < lo
  kep : RowMo w.heap.size wr vk ks
  hig : ∀ g, vk.ownBlock = some g → hi ≤ g ∨ g < lo
  bb : Below w.heap.size w wr
  l0 : w.heap.size ≤ lo
  l1 : lo ≤ hi
  l2 : hi ≤ wr.heap.size
theorem FrW.set {w : World} {lo hi n : Nat} {v : Value} {xs xs' : List Value} {vm vk : Value} {ms ks : List (List Int)} {wr w2 : World} (h : FrW w lo hi v n xs vm vk ms ks wr) (r : w2.ownsRow lo 29 14 v n xs') (g : wr.grownBy w2 v.ownBlock) : FrW w lo hi v n xs' vm vk ms ks w2 :=
  have near : ∀ q, v.ownBlock = some q → lo ≤ q ∧ q < hi := fun q hq => ⟨(World.ownsRow.lt h.row q hq).1, h.top q hq⟩
  ⟨r, h.top, h.own.kept g (fun q hq e => by have := near q e; have := h.low q hq; omega), h.low, h.kep.kept g (fun q hq e => by have := near q e; have := h.hig q hq; omega), h.hig, h.bb.grown g h.bb.size (fun q hq => Nat.le_trans h.l0 (near q hq).1), h.l0, h.l1, Nat.le_trans h.l2 g.size⟩
theorem FrW.low2 {w : World} {lo hi n T : Nat} {v : Value} {xs : List Value} {vm vk : Value} {ms ks : List (List Int)} {wr w2 wT : World} (h : FrW w lo hi v n xs vm vk ms ks wr) (hT : T ≤ lo) (b : Below T wT wr) (hz : T ≤ wr.heap.size) (g : wr.grownBy w2 v.ownBlock) : Below T wT w2 := b.grown g hz (fun q hq => Nat.le_trans hT (World.ownsRow.lt h.row q hq).1)
end Go.Proofs.YtmennknknecgjaaDoor

namespace Go.Proofs.YtmennknknecgjaaDoor
open Go.RowKit LedM StM CalM

set_option maxRecDepth 20000 in
set_option maxHeartbeats 16000000 in
theorem fresh_any (ms : List (List Int)) (a b : Int) (v : Value) (w : World) (ha : -9223372036854775808 ≤ a ∧ a ≤ 9223372036854775807) (h : RdMo w v ms) (ok : ∀ m ∈ ms, MoOk m) (hT : TabS w) : Calls Tryd.prog 3 #[v, .int .i64 a, .int .i64 b] w fun e w' => e = .returned (.bool true) ∧ Below w.heap.size w w' := by
  obtain ⟨D, HD⟩ := day_at
  obtain ⟨i0, hi0, hz0, hz1, hz2⟩ := info_parts infoM14
  obtain ⟨j0, hj0, hy0, hy1, hy2⟩ := info_parts infoS16
  obtain ⟨L, hL⟩ : ∃ L, ms.length = L := ⟨_, rfl⟩
  have RD : Hid (∀ w', Below w.heap.size w w' → RdMo w' v ms) := fun w' hb => h.later hb
  have HL : Hid (ms.length = L) := hL
  obtain ⟨ao, cap, e, hcap, hno⟩ := h.len
  subst e
  rw [hL] at hcap RD ⊢
  clear h hL
  by_cases hn : (L : Int) > 4000
  · clear RD HL HD
    go_enter Tryd.func3, Tryd.ntmps3
    go_wp2_with fail
    go_ret
    exact ⟨rfl, Below.refl _ _⟩
  have hl : ms.length ≤ 4000 := by rw [HL.out]; omega
  have t14 : T14 ms := T14.of_ok ok
  have OK : Hid (∀ m ∈ ms, MoOk m) := ok
  have T15 : Hid (T14 (ms ++ [mkM])) := t14.app (T14.one rfl)
  have CP : Hid (∀ w', Below w.heap.size w w' → Calls Tryd.prog 5 #[.slice ao L cap] w' (CopAns ms w')) := fun w' hb => copied_at ms _ w' (RD.out w' hb) t14 (by omega)
  have LP : Hid (∀ v' w', RdMo w' v' ms → Below w.heap.size w w' → Calls Tryd.prog 8 #[v', .int .i64 a, .int .i64 b] w' (LnsAns D ms a b w')) := fun v' w' hr hb => lines_at D HD ms a b ha.1 ha.2 v' w' hr ok (by omega) (hT.later hb)
  have WI : Hid (∀ v' w', RdMo w' v' ms → Calls Tryd.prog 6 #[v', .int .i64 a, .int .i64 b] w' (WinAns ms a b w')) := fun v' w' hr => within_at ms a b v' w' hr ok (by omega)
  have SM : Hid (∀ va vb w', RdMo w' va (ms ++ [mkM]) → RdMo w' vb (ms ++ [mkM]) → Calls Tryd.prog 7 #[va, vb] w' fun e w2 => e = .returned (.bool true) ∧ ∃ n, w2 = w'.drewN n) := fun va vb w' ha hb => sameM_yes _ va vb w' (by rw [List.length_append, List.length_singleton]; omega) (fun m hm => by
    rcases List.mem_append.1 hm with hm | hm
    · exact ok m hm
    · rw [List.mem_singleton.1 hm]; exact mk_ok) ha hb
  have wl := win_le ms a b
  have SW : Hid (∀ va vb w', RdMo w' va (win ms a b) → RdMo w' vb (win ms a b) → Calls Tryd.prog 7 #[va, vb] w' fun e w2 => e = .returned (.bool true) ∧ ∃ n, w2 = w'.drewN n) := fun va vb w' ha hb => sameM_yes (win ms a b) va vb w' (by omega) (fun m hm => ok m (List.mem_filter.1 hm).1) ha hb
  have ll : (if lnsOk ms a b then lnsL D ms a b else []).length ≤ 5000 := by
    split
    · unfold lnsL
      simp
      omega
    · simp
  have ST : Hid (∀ va vb w', Rd w' va (txL (if lnsOk ms a b then lnsL D ms a b else [])) → Rd w' vb (txL (if lnsOk ms a b then lnsL D ms a b else [])) → Calls Tryd.prog 9 #[va, vb] w' fun e w2 => e = .returned (.bool true) ∧ ∃ n, w2 = w'.drewN n) := fun va vb w' ha hb => sameT_yes _ va vb w' (by omega) ha hb
  unfold LnsAns at LP
  unfold WinAns at WI
  generalize (if lnsOk ms a b then lnsL D ms a b else []) = TX at *
  generalize lnsOk ms a b = K at *
  have WT : Hid (T14 (win ms a b)) := t14.filter _
  have CN1 : Hid (∀ (i : Nat) m, ms[i]? = some m → a ≤ m.getD 0 0 ∧ m.getD 0 0 ≤ b → (win (ms.take (i + 1)) a b).length = (win (ms.take i) a b).length + 1) := fun i m hm hc => by rw [take_push hm, win_push, if_pos hc]; simp
  have CN0 : Hid (∀ (i : Nat) m, ms[i]? = some m → ¬ (a ≤ m.getD 0 0 ∧ m.getD 0 0 ≤ b) → (win (ms.take (i + 1)) a b).length = (win (ms.take i) a b).length) := fun i m hm hc => by rw [take_push hm, win_push, if_neg hc]; simp
  have CNL : Hid (∀ i, i ≤ L → (win (ms.take i) a b).length ≤ i) := fun i hi => Nat.le_trans (win_le _ _ _) (by rw [List.length_take]; omega)
  have TKL : Hid (ms.take L = ms) := List.take_of_length_le (by rw [HL.out]; exact Nat.le_refl _)
  have MG : Hid (∀ i, i < L → ∃ m, ms[i]? = some m ∧ m.length = 14) := fun i hi => ⟨_, List.getElem?_eq_getElem (by rw [HL.out]; exact hi), (ok _ (List.getElem_mem (by rw [HL.out]; exact hi))).1⟩
  have CE : Hid (∀ w', Below w.heap.size w w' → ∀ i m, ms[i]? = some m → m.length = 14 → ∃ g o, ao = some ⟨g, o, none⟩ ∧ w'.cell? ⟨g, o + i * 14, none⟩ = some (.int .i64 (m.getD 0 0))) := fun w' hb i m hi hm => by
    obtain ⟨ao', cap', e, _, _, H⟩ := RD.out w' hb
    injection e with e1 e2 e3
    subst e1
    obtain ⟨g, o, e, _, r⟩ := H i m hi
    refine ⟨g, o, e, ?_⟩
    have := r 0 _ (bkL_at (by omega))
    simpa using this
  obtain ⟨NW, hNW⟩ : ∃ NW, (win ms a b).length = NW := ⟨_, rfl⟩
  have HN : Hid ((win ms a b).length = NW) := hNW
  have hnw : NW ≤ 4000 := by omega
  have lT : TX.length ≤ 5000 := ll
  have IM : Hid (∀ m : List Int, m.length = 14 → (Tryd.prog.info? 29).map (·.size) = some (bkL m).length) := fun m hm => infoMl hm
  clear hl t14 ok HD hT ll wl hNW RD
  go_enter Tryd.func3, Tryd.ntmps3
  go_wp2_with fail
  refine (CP.out w (Below.refl _ _)).mono ?_
  intro e w1 hc
  obtain ⟨g1, c1, rfl, hc1, n1, r1, b1⟩ := cop_own T15.out hc
  rw [HL.out] at hc1 n1 r1 ⊢
  have R1 : Hid (RowMo w.heap.size w1 (.slice (some ⟨g1, 0, none⟩) (L + 1) c1) (ms ++ [mkM]) ∧ Below w.heap.size w w1) := ⟨r1, b1⟩
  have WC : Hid (Calls _ _ _ _ _) := WI.out _ _ n1
  have FRT : Hid (∀ wr, RowMo w.heap.size wr (.slice (some ⟨g1, 0, none⟩) (L + 1) c1) (ms ++ [mkM]) → RdMo wr (.slice (some ⟨g1, 0, none⟩) L c1) ms) := fun wr hr => by
    have := (hr.rd T15.out).take (k := L) (by omega)
    rwa [List.take_append_of_le_length (by rw [HL.out]; exact Nat.le_refl _), List.take_of_length_le (by rw [HL.out]; exact Nat.le_refl _)] at this
  clear hc n1 r1 b1
  go_wp2_with fail
  refine WC.out.mono ?_
  rintro e w2 ⟨vA, rfl, r2, b2⟩
  obtain ⟨aA, cA, eA, hcA, -⟩ := (r2.rd WT.out).len
  subst eA
  rw [HN.out] at hcA ⊢
  have R2 : Hid (w2.ownsRow w1.heap.size 29 14 (.slice aA NW cA) NW (bksL (win ms a b)) ∧ Below w1.heap.size w1 w2) := by rw [← HN.out]; exact ⟨r2, b2⟩
  clear WC r2 b2
  have E2 : Hid ((w2.alloc (.cells #[] 29)).ownsRow w2.heap.size 29 14 (.slice (some ⟨w2.heap.size, 0, none⟩) 0 0) 0 []) := ownsRow_empty (Blk.new _ [] w2) (Nat.le_refl _)
  have A2 : Hid ((w2.alloc (.cells #[] 29)).ownsRow w1.heap.size 29 14 (.slice aA NW cA) NW (bksL (win ms a b))) := ownsRow_later R2.out.1 (below_alloc w2 _)
  have OB : Hid (∀ u ∈ bksL (win ms a b), u.oneCell' = true) := bksL_one _
  have q1 : Hid (0 + NW ≤ maxLen) := by show _ ≤ _; unfold maxLen; omega
  have q2 : Hid ((0 + NW) * 112 ≤ 140737488355328) := by show _ ≤ _; omega
  have q3 : Hid (w2.heap.size ≤ (w2.alloc (.cells #[] 29)).heap.size) := by show _ ≤ _; simp
  go_upto_region 6 with (at_builtin; refine wpList_catG rfl (.tmp 36) (.tmp 37) 22 rfl 29 i0 (.agg #[.int .i64 0, .int .i64 0, .int .i64 0, .int .i64 0, .int .i64 0, .int .i64 0, .int .i64 0, .int .i64 0, .int .i64 0, .int .i64 0, .int .i64 0, .int .i64 0, .int .i64 0, .int .i64 0]) 14 112 Tryd.underlying22 hi0 hz0 hz1 hz2 rfl (by decide) w2.heap.size (.slice (some ⟨w2.heap.size, 0, none⟩) 0 0) 0 [] rfl E2.out q3.out w1.heap.size (.slice aA NW cA) NW (bksL (win ms a b)) rfl A2.out OB.out q1.out q2.out ?_; intro vK w3 rK gK)
  have F3 : Hid (FrW w w1.heap.size w2.heap.size (.slice aA NW cA) NW (bksL (filM (win ms a b) (mD (-1)) 0)) (.slice (some ⟨g1, 0, none⟩) (L + 1) c1) vK (ms ++ [mkM]) (win ms a b) w3) := by
    have bA : Below w2.heap.size w2 w3 := ((Below.refl _ _).alloc (Nat.le_refl _) _).grown gK (by simp) (fun q e => by cases e; exact Nat.le_refl _)
    have hk : RowMo w2.heap.size w3 vK (win ms a b) := by
      unfold RowMo
      rw [HN.out]
      simpa using rK
    refine ⟨by show w3.ownsRow _ _ _ _ _ (bksL ([] ++ (win ms a b).drop 0)); rw [List.nil_append, List.drop_zero]; exact ownsRow_later R2.out.1 bA, fun g hg => (World.ownsRow.lt R2.out.1 g hg).2, (R1.out.1.later R2.out.2).later bA, fun g hg => R1.out.1.lt hg, ?_, fun g hg => .inl (hk.ge hg), below_trans R1.out.2 (below_trans R2.out.2 bA), R1.out.2.size, R2.out.2.size, bA.size⟩
    exact mono_row hk (Nat.le_trans R1.out.2.size R2.out.2.size)
  clear E2 A2 OB q1 q2 q3 rK gK R1 R2
  go_upto_region 8 with fail
  go_loopw [10, 11] (fun vn vi wr => ∃ i : Nat, vi = .int .i64 (i : Int) ∧ vn = .int .i64 (((win (ms.take i) a b).length : Nat) : Int) ∧ i ≤ L ∧ Hid (w3 = wr)) (fun _ vi _ => L - (intOf vi).toNat)
  case atStart => exact ⟨0, rfl, by simp [win], by omega, rfl⟩
  case round =>
    obtain ⟨i, rfl, rfl, hi, hw⟩ := hrel
    obtain rfl := hw.out
    clear hw
    by_cases hlt : (i : Int) < (L : Int)
    · obtain ⟨m, hm, hml⟩ := MG.out i (by omega)
      obtain ⟨g, o, rfl, c0⟩ := CE.out w3 F3.out.bb i m hm hml
      have cl := CNL.out i hi
      have N1 : Hid (a ≤ m.getD 0 0 ∧ m.getD 0 0 ≤ b → (win (ms.take (i + 1)) a b).length = (win (ms.take i) a b).length + 1) := CN1.out i m hm
      have N0 : Hid (¬ (a ≤ m.getD 0 0 ∧ m.getD 0 0 ≤ b) → (win (ms.take (i + 1)) a b).length = (win (ms.take i) a b).length) := CN0.out i m hm
      clear CP LP WI SM SW ST WT CN1 CN0 CNL TKL MG CE FRT hm F3
      generalize (win (ms.take i) a b).length = n at *
      generalize m.getD 0 0 = x at *
      by_cases x1 : a ≤ x
      · by_cases x2 : x ≤ b
        · have N1 : Hid ((win (ms.take (i + 1)) a b).length = n + 1) := N1.out ⟨x1, x2⟩
          clear N0
          go_wp2_with fail
          go_roundw
          case rel => exact ⟨i + 1, by go_num, by rw [N1.out]; go_num, by omega, trivial⟩
          case measure => simp [intOf]; omega
        · have N0 : Hid ((win (ms.take (i + 1)) a b).length = n) := N0.out (fun hh => x2 hh.2)
          have x2' : decide (x ≤ b) = false := decide_eq_false x2
          clear N1
          go_wp2_with fail
          go_roundw
          case rel => exact ⟨i + 1, by go_num, by rw [N0.out], by omega, trivial⟩
          case measure => simp [intOf]; omega
      · have N0 : Hid ((win (ms.take (i + 1)) a b).length = n) := N0.out (fun hh => x1 hh.1)
        have x1' : decide (a ≤ x) = false := decide_eq_false x1
        clear N1
        go_wp2_with fail
        go_roundw
        case rel => exact ⟨i + 1, by go_num, by rw [N0.out], by omega, trivial⟩
        case measure => simp [intOf]; omega
    · obtain rfl : i = L := by omega
      have e9 : (win (ms.take i) a b).length = NW := by rw [TKL.out]; exact HN.out
      rw [e9]
      clear e9 CN1 CN0 CNL TKL MG CE hlt
      have nn : ((NW : Int) != (NW : Int)) = false := by simp
      have FL : Hid (∀ d k, k < NW → (filM (win ms a b) (mD d) k).set k (mD d) = filM (win ms a b) (mD d) (k + 1)) := fun d k hk => filM_set (by rw [HN.out]; exact hk)
      have FT : Hid (∀ d k, T14 (filM (win ms a b) (mD d) k)) := fun d k => t14_fil WT.out d k
      have FN : Hid (∀ d k, k ≤ NW → (filM (win ms a b) (mD d) k).length = NW) := fun d k hk => by rw [filM_len _ _ _ (by rw [HN.out]; exact hk)]; exact HN.out
      have FA : Hid (∀ d, filM (win ms a b) (mD d) NW = List.replicate NW (mD d)) := fun d => by have := filM_all (win ms a b) (mD d); rwa [HN.out] at this
      go_wp2_with fail
      go_loopw [12] (fun vk wr => ∃ k : Nat, vk = .int .i64 (k : Int) ∧ k ≤ NW ∧ Hid (FrW w w1.heap.size w2.heap.size (.slice aA NW cA) NW (bksL (filM (win ms a b) (mD (-1)) k)) (.slice (some ⟨g1, 0, none⟩) (i + 1) c1) vK (ms ++ [mkM]) (win ms a b) wr)) (fun vk _ => NW - (intOf vk).toNat)
      case atStart => exact ⟨0, rfl, by omega, F3⟩
      case round =>
        clear F3
        obtain ⟨k, rfl, hk, F4⟩ := hrel
        by_cases hlt : (k : Int) < (NW : Int)
        · obtain ⟨g, cp, zs, ev, -, nb, zl, put⟩ := ownsRow_put F4.out.row (i := k) (by omega)
          injection ev with ev1 ev2 ev3
          subst ev1
          clear ev2 ev3
          have NB : Hid (Blk g 29 zs wr ∧ k * 14 + 14 ≤ zs.length) := ⟨nb, zl⟩
          have PT : Hid (∀ w', Blk g 29 (zs.take (k * 14) ++ bkL (mD (-1)) ++ zs.drop (k * 14 + 14)) w' → wr.grownBy w' (some g) → FrW w w1.heap.size w2.heap.size (.slice (some ⟨g, 0, none⟩) NW cA) NW (bksL (filM (win ms a b) (mD (-1)) (k + 1))) (.slice (some ⟨g1, 0, none⟩) (i + 1) c1) vK (ms ++ [mkM]) (win ms a b) w') := fun w' hb gg => by
            have h := put w' (bkL (mD (-1))) rfl hb
            rw [msL_set (FT.out (-1) k) (by rw [FN.out (-1) k hk]; omega), FL.out (-1) k (by omega)] at h
            exact F4.out.set h gg
          have IV : Hid ((Tryd.prog.info? 29).map (·.size) = some (bkL (mD (-1))).length) := infoMl rfl
          clear nb zl put CP LP WI SM SW ST WT FRT FL FT FN FA F4
          go_wp2_with (refine step_store rfl 29 _ _ rfl g (k * 14) 29 zs (bkL (mD (-1))) rfl rfl NB.out.1 NB.out.2 IV.out (bkL_one _) ?_; intro w9 nb9 g9)
          go_roundw
          case rel => exact ⟨k + 1, by go_num, by omega, PT.out _ nb9 g9⟩
          case measure => simp [intOf]; omega
        · obtain rfl : k = NW := by omega
          have F5 : Hid (FrW w w1.heap.size w2.heap.size (.slice aA k cA) k (bksL (List.replicate k (mD (-1)))) (.slice (some ⟨g1, 0, none⟩) (i + 1) c1) vK (ms ++ [mkM]) (win ms a b) wr) := by have := F4.out; rw [FA.out (-1)] at this; exact this
          clear F4
          have q1 : Hid (k + 1 ≤ maxLen) := by show _ ≤ _; unfold maxLen; omega
          have q2 : Hid ((k + 1) * 112 ≤ 140737488355328) := by show _ ≤ _; omega
          have q3 : Hid (w1.heap.size ≤ wr.heap.size) := Nat.le_trans F5.out.l1 F5.out.l2
          go_upto_region 19 with (at_builtin; refine wpList_pushF rfl (.tmp 76) (.tmp 78) 22 rfl 29 i0 (.agg #[.int .i64 0, .int .i64 0, .int .i64 0, .int .i64 0, .int .i64 0, .int .i64 0, .int .i64 0, .int .i64 0, .int .i64 0, .int .i64 0, .int .i64 0, .int .i64 0, .int .i64 0, .int .i64 0]) 14 112 Tryd.underlying22 hi0 hz0 hz1 hz2 rfl (by decide) w1.heap.size (.slice aA k cA) k (bksL (List.replicate k (mD (-1)))) (bkL (mD (-2))) rfl (bkL_one _) rfl F5.out.row q3.out rfl q1.out q2.out ?_; intro g5 c5 w5 o5 old5 gr5)
          have CA : Hid (∀ i, i < k → ∃ g, aA = some ⟨g, 0, none⟩ ∧ g < w5.heap.size ∧ w5.cell? ⟨g, i * 14, none⟩ = some (.int .i64 (-1))) := rep_day old5
          have CG : Hid (g5 < w5.heap.size ∧ w5.cell? ⟨g5, k * 14, none⟩ = some (.int .i64 (-2))) := push_day (by rw [msL_len (t14_rep (-1) k), List.length_replicate]) o5
          have F6 : Hid (FrW w w1.heap.size w2.heap.size (.slice aA k cA) k (bksL (List.replicate k (mD (-1)))) (.slice (some ⟨g1, 0, none⟩) (i + 1) c1) vK (ms ++ [mkM]) (win ms a b) w5) := F5.out.set old5 gr5
          have R6 : Hid (RowMo w.heap.size w5 (.slice (some ⟨g1, 0, none⟩) (i + 1) c1) (ms ++ [mkM]) ∧ RowMo w.heap.size w5 vK (win ms a b) ∧ Below w.heap.size w w5) := ⟨F6.out.own, F6.out.kep, F6.out.bb⟩
          have R6S : Hid (w.heap.size ≤ w5.heap.size) := F6.out.bb.size
          have LOWM : Hid (∀ g, (Value.slice (some ⟨g1, 0, none⟩) (i + 1) c1).ownBlock = some g → g < w5.heap.size) := fun g hg => F6.out.own.lt hg
          clear F5 F6 q1 q2 q3 o5 old5 gr5
          have WC : Hid (Calls _ _ _ _ _) := WI.out _ w5 (FRT.out w5 R6.out.1)
          go_wp2_with fail
          refine WC.out.mono ?_
          rintro e w6 ⟨vB, rfl, r6, b6⟩
          obtain ⟨aB, cB, eB, hcB, -⟩ := (r6.rd WT.out).len
          subst eB
          rw [HN.out] at hcB ⊢
          have R7 : Hid (w6.ownsRow w5.heap.size 29 14 (.slice aB k cB) k (bksL (win ms a b)) ∧ Below w5.heap.size w5 w6 ∧ RdMo w6 (.slice aB k cB) (win ms a b) ∧ RdMo w6 vK (win ms a b) ∧ RowMo w.heap.size w6 (.slice (some ⟨g1, 0, none⟩) (i + 1) c1) (ms ++ [mkM]) ∧ Below w.heap.size w w6) := by
            have rr := r6
            unfold RowMo at rr
            have r9 := r6.rd WT.out
            rw [HN.out] at rr r9
            exact ⟨rr, b6, r9, (R6.out.2.1.later b6).rd WT.out, R6.out.1.later b6, below_trans R6.out.2.2 b6⟩
          clear WC r6 b6 R6 WI
          have SC : Hid (Calls _ _ _ _ _) := SW.out _ _ w6 R7.out.2.2.1 R7.out.2.2.2.1
          clear SW
          go_wp2_with fail
          refine SC.out.mono ?_
          rintro e w7 ⟨rfl, n7, rfl⟩
          have CC : Hid (Calls _ _ _ _ _) := CP.out (w6.drewN n7) (below_drewN R7.out.2.2.2.2.2 n7)
          clear SC
          go_wp2_with fail
          refine CC.out.mono ?_
          rintro e w8 ⟨g8, c8, rfl, r8, b8⟩
          have b68 : Below w6.heap.size w6 w8 := below_trans (below_drewN (Below.refl _ _) n7) b8
          have SB : Hid (Calls _ _ _ _ _) := SM.out _ _ w8 ((R7.out.2.2.2.2.1.later b68).rd T15.out) (r8.rd T15.out)
          have R8 : Hid (w8.ownsRow w5.heap.size 29 14 (.slice aB k cB) k (bksL (win ms a b)) ∧ RowMo w.heap.size w8 (.slice (some ⟨g1, 0, none⟩) (i + 1) c1) (ms ++ [mkM]) ∧ Below w.heap.size w w8 ∧ Below w5.heap.size w5 w8 ∧ (∀ g, (Value.slice aB k cB).ownBlock = some g → g < w6.heap.size) ∧ w6.heap.size ≤ w8.heap.size) := ⟨ownsRow_later R7.out.1 b68, R7.out.2.2.2.2.1.later b68, below_trans R7.out.2.2.2.2.2 b68, below_trans R7.out.2.1 b68, fun g hg => (World.ownsRow.lt R7.out.1 g hg).2, b68.size⟩
          have S56 : Hid (w5.heap.size ≤ w6.heap.size ∧ w.heap.size ≤ w5.heap.size) := ⟨R7.out.2.1.size, R6S.out⟩
          rw [HL.out] at SB ⊢
          clear CC r8 b8 b68 R7
          go_wp2_with fail
          refine SB.out.mono ?_
          rintro e w9' ⟨rfl, n9, hw9⟩
          rw [hw9]
          clear hw9 w9' SB
          obtain ⟨w9, hw9⟩ : ∃ y, w8.drewN n9 = y := ⟨_, rfl⟩
          have F9 : Hid (FrW w w5.heap.size w6.heap.size (.slice aB k cB) k (bksL (filM (win ms a b) (mD (-3)) 0)) (.slice (some ⟨g1, 0, none⟩) (i + 1) c1) (.slice none 0 0) (ms ++ [mkM]) [] w9 ∧ Below w5.heap.size w5 w9) := by
            subst hw9
            exact ⟨⟨by show World.ownsRow _ _ _ _ _ _ (bksL ([] ++ (win ms a b).drop 0)); rw [List.nil_append, List.drop_zero]; exact R8.out.1, R8.out.2.2.2.2.1, R8.out.2.1, fun g hg => LOWM.out g hg, RowMo.nil _ _, (fun g hg => by cases hg), below_drewN R8.out.2.2.1 n9, S56.out.2, S56.out.1, R8.out.2.2.2.2.2⟩, below_drewN R8.out.2.2.2.1 n9⟩
          rw [hw9]
          clear hw9 R8 S56
          go_wp2_with fail
          go_loopw [15] (fun vj wr => ∃ j : Nat, vj = .int .i64 (j : Int) ∧ j ≤ k ∧ Hid (FrW w w5.heap.size w6.heap.size (.slice aB k cB) k (bksL (filM (win ms a b) (mD (-3)) j)) (.slice (some ⟨g1, 0, none⟩) (i + 1) c1) (.slice none 0 0) (ms ++ [mkM]) [] wr ∧ Below w5.heap.size w5 wr)) (fun vj _ => k - (intOf vj).toNat)
          case atStart => exact ⟨0, rfl, by omega, F9⟩
          case round =>
            clear F9
            obtain ⟨j, rfl, hj, F10⟩ := hrel
            by_cases hlt : (j : Int) < (k : Int)
            · obtain ⟨g, cp, zs, ev, -, nb, zl, put⟩ := ownsRow_put F10.out.1.row (i := j) (by omega)
              injection ev with ev1 ev2 ev3
              subst ev1
              clear ev2 ev3
              have NB : Hid (Blk g 29 zs wr ∧ j * 14 + 14 ≤ zs.length) := ⟨nb, zl⟩
              have PT : Hid (∀ w', Blk g 29 (zs.take (j * 14) ++ bkL (mD (-3)) ++ zs.drop (j * 14 + 14)) w' → wr.grownBy w' (some g) → FrW w w5.heap.size w6.heap.size (.slice (some ⟨g, 0, none⟩) k cB) k (bksL (filM (win ms a b) (mD (-3)) (j + 1))) (.slice (some ⟨g1, 0, none⟩) (i + 1) c1) (.slice none 0 0) (ms ++ [mkM]) [] w' ∧ Below w5.heap.size w5 w') := fun w' hb gg => by
                have h := put w' (bkL (mD (-3))) rfl hb
                rw [msL_set (FT.out (-3) j) (by rw [FN.out (-3) j hj]; omega), FL.out (-3) j (by omega)] at h
                exact ⟨F10.out.1.set h gg, F10.out.1.low2 (Nat.le_refl _) F10.out.2 (Nat.le_trans F10.out.1.l1 F10.out.1.l2) gg⟩
              have IV : Hid ((Tryd.prog.info? 29).map (·.size) = some (bkL (mD (-3))).length) := infoMl rfl
              clear nb zl put CP LP SM ST WT FRT FL FT FN FA F10 CA CG
              go_wp2_with (refine step_store rfl 29 _ _ rfl g (j * 14) 29 zs (bkL (mD (-3))) rfl rfl NB.out.1 NB.out.2 IV.out (bkL_one _) ?_; intro w9 nb9 g9)
              go_roundw
              case rel => exact ⟨j + 1, by go_num, by omega, PT.out _ nb9 g9⟩
              case measure => simp [intOf]; omega
            · obtain rfl : j = k := by omega
              have F11 : Hid (FrW w w5.heap.size w6.heap.size (.slice aB j cB) j (bksL (List.replicate j (mD (-3)))) (.slice (some ⟨g1, 0, none⟩) (i + 1) c1) (.slice none 0 0) (ms ++ [mkM]) [] wr ∧ Below w5.heap.size w5 wr) := by have := F10.out; rw [FA.out (-3)] at this; exact this
              clear F10 FL FT FN FA
              have q1 : Hid (j + 1 ≤ maxLen) := by show _ ≤ _; unfold maxLen; omega
              have q2 : Hid ((j + 1) * 112 ≤ 140737488355328) := by show _ ≤ _; omega
              have q3 : Hid (w5.heap.size ≤ wr.heap.size) := Nat.le_trans F11.out.1.l1 F11.out.1.l2
              go_upto_region 27 with (at_builtin; refine wpList_pushF rfl (.tmp 108) (.tmp 110) 22 rfl 29 i0 (.agg #[.int .i64 0, .int .i64 0, .int .i64 0, .int .i64 0, .int .i64 0, .int .i64 0, .int .i64 0, .int .i64 0, .int .i64 0, .int .i64 0, .int .i64 0, .int .i64 0, .int .i64 0, .int .i64 0]) 14 112 Tryd.underlying22 hi0 hz0 hz1 hz2 rfl (by decide) w5.heap.size (.slice aB j cB) j (bksL (List.replicate j (mD (-3)))) (bkL (mD (-4))) rfl (bkL_one _) rfl F11.out.1.row q3.out rfl q1.out q2.out ?_; intro g10 c10 w10 o10 old10 gr10)
              have b510 : Below w5.heap.size w5 w10 := F11.out.1.low2 (Nat.le_refl _) F11.out.2 q3.out gr10
              have F12 : FrW w w5.heap.size w6.heap.size (.slice aB j cB) j (bksL (List.replicate j (mD (-3)))) (.slice (some ⟨g1, 0, none⟩) (i + 1) c1) (.slice none 0 0) (ms ++ [mkM]) [] w10 := F11.out.1.set old10 gr10
              have R12 : Hid (RowMo w.heap.size w10 (.slice (some ⟨g1, 0, none⟩) (i + 1) c1) (ms ++ [mkM]) ∧ Below w.heap.size w w10) := ⟨F12.own, F12.bb⟩
              have kc : ∀ {p : Addr} {u : Value}, w5.cell? p = some u → w10.cell? p = some u := fun hc => (b510.cell (World.block_lt_of_cell? _ _ hc)).trans hc
              have CA2 : Hid (∀ i, i < j → ∃ g, aA = some ⟨g, 0, none⟩ ∧ w10.cell? ⟨g, i * 14, none⟩ = some (.int .i64 (-1))) := fun q hq => by
                obtain ⟨g, e1, _, e3⟩ := CA.out q hq
                exact ⟨g, e1, kc e3⟩
              have CB2 : Hid (∀ i, i < j → ∃ g, aB = some ⟨g, 0, none⟩ ∧ w10.cell? ⟨g, i * 14, none⟩ = some (.int .i64 (-3))) := fun q hq => by
                obtain ⟨g, e1, _, e3⟩ := rep_day old10 q hq
                exact ⟨g, e1, e3⟩
              have CG2 : Hid (w10.cell? ⟨g5, j * 14, none⟩ = some (.int .i64 (-2)) ∧ w10.cell? ⟨g10, j * 14, none⟩ = some (.int .i64 (-4))) := ⟨kc CG.out.2, (push_day (by rw [msL_len (t14_rep (-3) j), List.length_replicate]) o10).2⟩
              clear F11 F12 q1 q2 q3 o10 old10 gr10 CA CG kc b510
              have LC : Hid (Calls _ _ _ _ _) := LP.out _ w10 (FRT.out w10 R12.out.1) R12.out.2
              go_wp2_with fail
              refine LC.out.mono ?_
              rintro e w11 ⟨vC, rfl, r11, b11⟩
              obtain ⟨aC, cC, eC, hcC, -⟩ := r11.rd.len
              subst eC
              rw [txL_len] at hcC ⊢
              obtain ⟨NT, hNT⟩ : ∃ NT, TX.length = NT := ⟨_, rfl⟩
              have HNT : Hid (TX.length = NT) := hNT
              have R13 : Hid (w11.ownsRow w10.heap.size 9 1 (.slice aC NT cC) NT (txL TX) ∧ Below w10.heap.size w10 w11) := by
                have := r11
                unfold RowV at this
                rw [txL_len, hNT] at this
                exact ⟨this, b11⟩
              rw [hNT] at hcC lT ⊢
              clear hNT r11 b11 LC
              have E13 : Hid ((w11.alloc (.cells #[] 9)).ownsRow w11.heap.size 9 1 (.slice (some ⟨w11.heap.size, 0, none⟩) 0 0) 0 []) := ownsRow_empty (Blk.new _ [] w11) (Nat.le_refl _)
              have A13 : Hid ((w11.alloc (.cells #[] 9)).ownsRow w10.heap.size 9 1 (.slice aC NT cC) NT (txL TX)) := ownsRow_later R13.out.1 (below_alloc w11 _)
              have O13 : Hid (∀ u ∈ txL TX, u.oneCell' = true) := fun u hu => by
                obtain ⟨t, _, rfl⟩ := List.mem_map.1 hu
                rfl
              have q1 : Hid (0 + NT ≤ maxLen) := by show _ ≤ _; unfold maxLen; omega
              have q2 : Hid ((0 + NT) * 16 ≤ 140737488355328) := by show _ ≤ _; omega
              have q3 : Hid (w11.heap.size ≤ (w11.alloc (.cells #[] 9)).heap.size) := by show _ ≤ _; simp
              go_upto_region 29 with (at_builtin; refine wpList_catG rfl (.tmp 122) (.tmp 123) 31 rfl 9 j0 (.string ⟨#[]⟩) 1 16 Tryd.underlying31 hj0 hy0 hy1 hy2 rfl (by decide) w11.heap.size (.slice (some ⟨w11.heap.size, 0, none⟩) 0 0) 0 [] rfl E13.out q3.out w10.heap.size (.slice aC NT cC) NT (txL TX) rfl A13.out O13.out q1.out q2.out ?_; intro vW w12 rW gW)
              have F13 : Hid (w12.ownsRow w10.heap.size 9 1 (.slice aC NT cC) NT (txL (filM TX [120] 0)) ∧ RowV 9 w11.heap.size w12 vW (txL TX) ∧ Below w10.heap.size w10 w12 ∧ (∀ g, (Value.slice aC NT cC).ownBlock = some g → w10.heap.size ≤ g ∧ g < w11.heap.size) ∧ w10.heap.size ≤ w12.heap.size) := by
                have bA : Below w11.heap.size w11 w12 := ((Below.refl _ _).alloc (Nat.le_refl _) _).grown gW (by simp) (fun q e => by cases e; exact Nat.le_refl _)
                refine ⟨by show w12.ownsRow _ _ _ _ _ (txL ([] ++ TX.drop 0)); rw [List.nil_append, List.drop_zero]; exact ownsRow_later R13.out.1 bA, ?_, below_trans R13.out.2 bA, fun g hg => World.ownsRow.lt R13.out.1 g hg, Nat.le_trans R13.out.2.size bA.size⟩
                unfold RowV
                rw [txL_len, HNT.out]
                simpa using rW
              clear E13 A13 O13 q1 q2 q3 rW gW R13
              go_wp2_with fail
              go_loopw [20] (fun vq wr => ∃ q : Nat, vq = .int .i64 (q : Int) ∧ q ≤ NT ∧ Hid (wr.ownsRow w10.heap.size 9 1 (.slice aC NT cC) NT (txL (filM TX [120] q)) ∧ RowV 9 w11.heap.size wr vW (txL TX) ∧ Below w10.heap.size w10 wr ∧ (∀ g, (Value.slice aC NT cC).ownBlock = some g → w10.heap.size ≤ g ∧ g < w11.heap.size) ∧ w10.heap.size ≤ wr.heap.size)) (fun vq _ => NT - (intOf vq).toNat)
              case atStart => exact ⟨0, rfl, by omega, F13⟩
              case round =>
                clear F13
                obtain ⟨q, rfl, hq, F14⟩ := hrel
                by_cases hlt : (q : Int) < (NT : Int)
                · obtain ⟨g, cp, zs, ev, -, nb, zl, put⟩ := ownsRow_put F14.out.1 (i := q) (by omega)
                  injection ev with ev1 ev2 ev3
                  subst ev1
                  clear ev2 ev3
                  have cc := nb.cell q _ (List.getElem?_eq_getElem (by omega))
                  have fz := nb.fz q
                  have PT : Hid (wr.setCell ⟨g, q, none⟩ (.string ⟨#[120]⟩) |> fun w' => w'.ownsRow w10.heap.size 9 1 (.slice (some ⟨g, 0, none⟩) NT cC) NT (txL (filM TX [120] (q + 1))) ∧ RowV 9 w11.heap.size w' vW (txL TX) ∧ Below w10.heap.size w10 w' ∧ (∀ g', (Value.slice (some ⟨g, 0, none⟩) NT cC).ownBlock = some g' → w10.heap.size ≤ g' ∧ g' < w11.heap.size) ∧ w10.heap.size ≤ w'.heap.size) := by
                    have sg := setCell_grown wr g q (.string ⟨#[120]⟩)
                    have nbs := nb.set (i := q) (.string ⟨#[120]⟩)
                    have ng := F14.out.2.2.2.1 g rfl
                    have h := put _ [.string ⟨#[120]⟩] rfl (by
                      rw [List.set_eq_take_append_cons_drop, if_pos (by omega)] at nbs
                      simpa using nbs)
                    have hx := txL_set (ts := filM TX [120] q) (x := [120]) (k := q) (by rw [filM_len _ _ _ (by rw [HNT.out]; omega), HNT.out]; omega)
                    have hx2 := filM_set (ms := TX) (x := [120]) (k := q) (by rw [HNT.out]; omega)
                    rw [hx2] at hx
                    refine ⟨by rw [← hx]; exact h, F14.out.2.1.keptS sg (fun g' hg' e => by cases e; have := F14.out.2.1.block_ge hg'; omega), F14.out.2.2.1.grown sg F14.out.2.2.2.2 (fun g' e => by cases e; exact ng.1), F14.out.2.2.2.1, Nat.le_trans F14.out.2.2.2.2 sg.size⟩
                  generalize zs[q] = old at *
                  clear nb zl put CP LP SM ST WT FRT F14 CA2 CB2 CG2
                  go_wp2_with fail
                  go_roundw
                  case rel => exact ⟨q + 1, by go_num, by omega, PT.out⟩
                  case measure => simp [intOf]; omega
                · obtain rfl : q = NT := by omega
                  have R14 : Hid (RowMo w.heap.size wr (.slice (some ⟨g1, 0, none⟩) (i + 1) c1) (ms ++ [mkM]) ∧ Below w.heap.size w wr ∧ RowV 9 w11.heap.size wr vW (txL TX) ∧ Below w10.heap.size w10 wr) := ⟨R12.out.1.later F14.out.2.2.1, below_trans R12.out.2 F14.out.2.2.1, F14.out.2.1, F14.out.2.2.1⟩
                  clear F14 R12
                  have LC : Hid (Calls _ _ _ _ _) := LP.out _ wr (FRT.out wr R14.out.1) R14.out.2.1
                  clear LP FRT
                  go_wp2_with fail
                  refine LC.out.mono ?_
                  rintro e w14 ⟨vD, rfl, r14, b14⟩
                  have b1014 : Below w10.heap.size w10 w14 := below_trans R14.out.2.2.2 b14
                  have kc : ∀ {p : Addr} {u : Value}, w10.cell? p = some u → w14.cell? p = some u := fun hc => (b1014.cell (World.block_lt_of_cell? _ _ hc)).trans hc
                  have SC : Hid (Calls _ _ _ _ _) := ST.out _ _ w14 r14.rd (R14.out.2.2.1.laterS b14).rd
                  have R15 : Hid (RowMo w.heap.size w14 (.slice (some ⟨g1, 0, none⟩) (i + 1) c1) (ms ++ [mkM]) ∧ Below w.heap.size w w14) := ⟨R14.out.1.later b14, below_trans R14.out.2.1 b14⟩
                  have CA3 : Hid (∀ i, i < j → ∃ g, aA = some ⟨g, 0, none⟩ ∧ w14.cell? ⟨g, i * 14, none⟩ = some (.int .i64 (-1))) := fun q hq => by
                    obtain ⟨g, e1, e3⟩ := CA2.out q hq
                    exact ⟨g, e1, kc e3⟩
                  have CB3 : Hid (∀ i, i < j → ∃ g, aB = some ⟨g, 0, none⟩ ∧ w14.cell? ⟨g, i * 14, none⟩ = some (.int .i64 (-3))) := fun q hq => by
                    obtain ⟨g, e1, e3⟩ := CB2.out q hq
                    exact ⟨g, e1, kc e3⟩
                  have cg := kc CG2.out.1
                  have ch := kc CG2.out.2
                  clear LC r14 b14 b1014 kc R14 CA2 CB2 CG2 ST
                  have jb : (0 : Int) ≤ (j : Int) := by omega
                  go_wp2_with fail
                  refine SC.out.mono ?_
                  rintro e w15 ⟨rfl, n15, rfl⟩
                  clear SC cg ch
                  go_wp2_with fail
                  go_loopw [23] (fun vp wr => ∃ p : Nat, vp = .int .i64 (p : Int) ∧ p ≤ j ∧ Hid (w14.drewN n15 = wr)) (fun vp _ => j - (intOf vp).toNat)
                  case atStart => exact ⟨0, rfl, by omega, rfl⟩
                  case round =>
                    obtain ⟨p, rfl, hp, hw⟩ := hrel
                    obtain rfl := hw.out
                    clear hw
                    by_cases hlt : (p : Int) < (j : Int)
                    · obtain ⟨gA, rfl, x0⟩ := CA3.out p (by omega)
                      obtain ⟨gB, rfl, y0⟩ := CB3.out p (by omega)
                      clear CA3 CB3 CP SM R15
                      go_wp2_with fail
                      go_roundw
                      case rel => exact ⟨p + 1, by go_num, by omega, trivial⟩
                      case measure => simp [intOf]; omega
                    · obtain rfl : p = j := by omega
                      clear CA3 CB3
                      have CC : Hid (Calls _ _ _ _ _) := CP.out (w14.drewN n15) (below_drewN R15.out.2 n15)
                      go_wp2_with fail
                      refine CC.out.mono ?_
                      rintro e w16 ⟨g16, c16, rfl, r16, b16⟩
                      have b1416 : Below w14.heap.size w14 w16 := below_trans (below_drewN (Below.refl _ _) n15) b16
                      have SB : Hid (Calls _ _ _ _ _) := SM.out _ _ w16 ((R15.out.1.later b1416).rd T15.out) (r16.rd T15.out)
                      have W16 : Hid (Below w.heap.size w w16) := below_trans R15.out.2 b1416
                      rw [HL.out] at SB ⊢
                      clear r16 b16 b1416 R15 CC SM CP
                      go_wp2_with fail
                      refine SB.out.mono ?_
                      rintro e w17 ⟨rfl, n17, rfl⟩
                      clear SB
                      go_wp2_with fail
                      go_ret
                      exact ⟨rfl, below_drewN W16.out n17⟩
end Go.Proofs.YtmennknknecgjaaDoor
