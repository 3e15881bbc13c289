/-
  Ours: money.Parse; the walk of MoneyRoundTrip.
-/
import Derived.Test.YtpkgdkgbbbbaoaaDoorMrtGo
import Derived.Deep.RegionHeld
namespace Go.Proofs.YtpkgdkgbbbbaoaaDoor
open Go.RowKit Go.Sort Go.Lib

theorem var_keeps {w w' : World} {n : String} {cs : Array Value} (hb : Below w.heap.size w w') (hv : w.var? Tryd.prog n = some cs) : w'.var? Tryd.prog n = some cs := by
  unfold World.var? at hv ⊢
  cases hg : Tryd.prog.globalNamed n with
  | none => rw [hg] at hv; cases hv
  | some g =>
    rw [hg] at hv
    simp only [Option.bind_some] at hv ⊢
    have lt : g < w.heap.size := by
      refine Classical.byContradiction fun hn => ?_
      rw [Array.getElem?_eq_none (by omega)] at hv
      cases hv
    rw [hb.block g lt]
    exact hv
theorem ErrW.below {w w' : World} (h : ErrW w) (hb : Below w.heap.size w w') : ErrW w' := by
  obtain ⟨tp, p, h1⟩ := h.syn
  obtain ⟨tq, q, h2⟩ := h.ran
  exact ⟨⟨tp, p, var_keeps hb h1⟩, ⟨tq, q, var_keeps hb h2⟩⟩

theorem extract_eq (l : List UInt8) (i j : Nat) : ({ data := l.toArray } : ByteArray).extract i j = { data := ((l.drop i).take (j - i)).toArray } := by
  apply ByteArray.ext
  simp [ByteArray.data_extract]

set_option maxHeartbeats 2000000 in
theorem parse_long (l : List UInt8) (hl : ¬ (4 ≤ l.length ∧ l.length ≤ 21)) (hs : l.length ≤ 9223372036854775807) (w : World) :
    Calls Tryd.prog 28 #[.string ⟨l.toArray⟩] w fun e w' => e = .returned (.tuple #[.int .i64 0, .bool false]) ∧ w' = w := by
  have hsz : ({ data := l.toArray } : ByteArray).size = l.length := rfl
  obtain ⟨n, hn⟩ : ∃ n, l.length = n := ⟨_, rfl⟩
  rw [hn] at hl hs hsz
  generalize ({ data := l.toArray } : ByteArray) = t at *
  have hc : (n : Int) - 3 < 1 ∨ (¬ (n : Int) - 3 < 1 ∧ 21 < (n : Int)) := by omega
  clear hl
  rcases hc with h1 | ⟨h1, h2⟩
  all_goals
    go_enter Tryd.func28, Tryd.ntmps28
    go_wp2_with fail
    go_ret2
    exact ⟨rfl, rfl⟩

theorem wrap_small (x : Int) (h0 : 0 ≤ x) (h1 : x ≤ 100) : IntKind.i64.wrap x = x := by
  simp [IntKind.wrap, IntKind.bits, IntKind.signed]
  omega
theorem un_eq (l : List UInt8) (i j : Nat) (hi : i = l.length - 3) (hj : j = l.length - 3 + 1) :
    ({ data := l.toArray } : ByteArray).extract 0 i ++ ({ data := l.toArray } : ByteArray).extract j l.length = { data := (unL l).toArray } := by
  subst hi hj
  rw [extract_eq l 0 _, extract_eq l _ _]
  apply ByteArray.ext
  simp only [ByteArray.data_append, unL, List.drop_zero, Nat.sub_zero]
  rw [List.take_of_length_le (l := l.drop (l.length - 3 + 1)) (by simp)]
  simp

theorem bytes_ne (a b : List UInt8) : (({ data := a.toArray } : ByteArray).toList == ({ data := b.toArray } : ByteArray).toList) = decide (a = b) := by
  rw [Bool.eq_iff_iff]
  simp [ByteArray.toList_eq]
theorem cut_from (t : ByteArray) (n : Nat) (hsz : t.size = n) (h0 : 4 ≤ n) (W : World) : (Instr.sliceAt 9 (.string t) (some (.int .i64 ((n : Int) - 3 + 1))) none none).run Tryd.prog W = .ok (.string (t.extract (n - 3 + 1) n)) W := by
  go_simp
  rw [if_pos (by omega), show ((n : Int) - 3 + 1).toNat = n - 3 + 1 by omega]
theorem cut_to (t : ByteArray) (n : Nat) (hsz : t.size = n) (h0 : 4 ≤ n) (W : World) : (Instr.sliceAt 9 (.string t) none (some (.int .i64 ((n : Int) - 3))) none).run Tryd.prog W = .ok (.string (t.extract 0 (n - 3))) W := by
  go_simp
  rw [if_pos (by omega), show ((n : Int) - 3).toNat = n - 3 by omega]
theorem cut_from2 (t : ByteArray) (n : Nat) (hsz : t.size = n) (h0 : 4 ≤ n) (W : World) : (Instr.slice 9 (.string t) (some (.int .i64 ((n : Int) - 3 + 1))) none none).run Tryd.prog W = .ok (.string (t.extract (n - 3 + 1) n)) W := by
  go_simp
  rw [if_pos (by omega), show ((n : Int) - 3 + 1).toNat = n - 3 + 1 by omega]
theorem cut_to2 (t : ByteArray) (n : Nat) (hsz : t.size = n) (h0 : 4 ≤ n) (W : World) : (Instr.slice 9 (.string t) none (some (.int .i64 ((n : Int) - 3))) none).run Tryd.prog W = .ok (.string (t.extract 0 (n - 3))) W := by
  go_simp
  rw [if_pos (by omega), show ((n : Int) - 3).toNat = n - 3 by omega]
theorem held_err {w a b : World} (hU : Below a.heap.size a b) (h : Below w.heap.size w a ∧ ErrW a) : Below w.heap.size w b ∧ ErrW b := ⟨below_trans h.1 hU, h.2.below hU⟩

set_option maxHeartbeats 2000000 in
theorem parse_ok (l : List UInt8) (l0 : 4 ≤ l.length) (l1 : l.length ≤ 21) (v : Int) (h : Lib.parseIntB 64 (unL l) = .ok v) (b : Bool) (hb : decide (fmtL v = l) = b) (w : World) (ht : TabW w) (he : ErrW w) :
    Calls Tryd.prog 28 #[.string ⟨l.toArray⟩] w fun e w' => Below w.heap.size w w' ∧ e = .returned (.tuple #[.int .i64 (if b then v else 0), .bool b]) := by
  have hsz : ({ data := l.toArray } : ByteArray).size = l.length := rfl
  have vb := Lib.parseIntB_bounds h
  have v0 : -9223372036854775808 ≤ v := by simpa using vb.1
  have v1 : v ≤ 9223372036854775807 := by have := vb.2; simp at this; omega
  have PI : Hid (∀ (s : ByteArray) (w : World), s = { data := (unL l).toArray } → ErrW w → Calls Tryd.prog 49 #[.string s, .int .i64 10, .int .i64 64] w fun e w' => e = .returned (.tuple #[.int .i64 v, .nilIface]) ∧ Below w.heap.size w w') := fun s w hs he => by
    subst hs
    refine (parseInt_at (unL l) (by unfold unL; simp; omega) w he).mono ?_
    rintro e w1 ⟨U, h1 | h1⟩
    · obtain ⟨v', hv', _, _, rfl⟩ := h1
      rw [h] at hv'
      injection hv' with hv'
      subst hv'
      exact ⟨rfl, U⟩
    · exact absurd h (h1.1 v)
  have UN := un_eq l
  have FM : Hid (∀ w, TabW w → Calls Tryd.prog 22 #[.int .i64 v] w fun e w' => e = .returned (.string ⟨(fmtL v).toArray⟩) ∧ Below w.heap.size w w') := fun w h => format_at v v0 v1 w h
  have HT : Hid (TabW w) := ht
  have HE : Hid (ErrW w) := he
  have HQ : Hid ((({ data := (fmtL v).toArray } : ByteArray).toList == ({ data := l.toArray } : ByteArray).toList) = b) := by
    show _ = _
    rw [← hb]
    exact bytes_ne _ _
  obtain ⟨n, hn⟩ : ∃ n, l.length = n := ⟨_, rfl⟩
  have hn0 : (4 : Int) ≤ (n : Int) := by omega
  have hn1 : (n : Int) ≤ 21 := by omega
  have g1 : 0 ≤ (n : Int) - 3 + 1 ∧ (n : Int) - 3 + 1 ≤ (n : Int) := by omega
  have g2 : 3 ≤ (n : Int) ∧ (n : Int) - 3 ≤ (n : Int) := by omega
  have g3 : ((n : Int) - 3 + 1).toNat = n - 3 + 1 := by omega
  have g4 : ((n : Int) - 3).toNat = n - 3 := by omega
  rw [hn] at hsz UN
  have HU : Hid (∀ i j : Nat, i = n - 3 → j = n - 3 + 1 → ({ data := l.toArray } : ByteArray).extract 0 i ++ ({ data := l.toArray } : ByteArray).extract j n = { data := (unL l).toArray }) := UN
  clear h hb ht he UN vb l0 l1 hn
  generalize ({ data := (unL l).toArray } : ByteArray) = U at *
  generalize ({ data := (fmtL v).toArray } : ByteArray) = F at *
  generalize ({ data := l.toArray } : ByteArray) = t at *
  have k1 : (0 ≤ (n : Int) - 3 + 1) = True := eq_true (by omega)
  have k0 : IntKind.i64.wrap ((n : Int) - 3 + 1) = (n : Int) - 3 + 1 := wrap_small _ (by omega) (by omega)
  have k2 : ((n : Int) - 3 + 1 ≤ (n : Int)) = True := eq_true (by omega)
  have k3 : (3 ≤ (n : Int)) = True := eq_true (by omega)
  have k4 : ((n : Int) - 3 ≤ (n : Int)) = True := eq_true (by omega)
  have cf := cut_from t n hsz (by omega)
  have ct := cut_to t n hsz (by omega)
  have cf2 := cut_from2 t n hsz (by omega)
  have ct2 := cut_to2 t n hsz (by omega)
  go_enter Tryd.func28, Tryd.ntmps28
  go_wp2_with fail
  go_region_held (fun w' => Below w.heap.size w w' ∧ ErrW w') (first | exact ⟨Below.drew (Below.refl _ _), HE.out.below (Below.drew (Below.refl _ _))⟩ | exact held_err hU (by assumption)) ((go_at_call 49; refine (PI.out _ _ (HU.out _ _ (by omega) (by omega)) (And.right (by assumption))).mono ?_; rintro e w1 ⟨rfl, hU⟩))
  all_goals
    have hh : Below w.heap.size w w1 ∧ ErrW w1 := by assumption
    have U2 := hh.1
    clear hh
    cases b with
    | true =>
      have q1 : (F.toList == t.toList) = true := HQ.out
      go_wp2_with fail
      refine (FM.out _ (tab_below HT.out U2)).mono ?_
      rintro e w2 ⟨rfl, U3⟩
      go_wp2_with fail
      go_ret2
      exact ⟨below_trans U2 U3, rfl⟩
    | false =>
      have q1 : (F.toList == t.toList) = false := HQ.out
      go_wp2_with fail
      refine (FM.out _ (tab_below HT.out U2)).mono ?_
      rintro e w2 ⟨rfl, U3⟩
      go_wp2_with fail
      go_ret2
      exact ⟨below_trans U2 U3, rfl⟩

set_option maxHeartbeats 2000000 in
theorem parse_err (l : List UInt8) (l0 : 4 ≤ l.length) (l1 : l.length ≤ 21) (h : ∀ v, Lib.parseIntB 64 (unL l) ≠ .ok v) (w : World) (he : ErrW w) :
    Calls Tryd.prog 28 #[.string ⟨l.toArray⟩] w fun e w' => Below w.heap.size w w' ∧ e = .returned (.tuple #[.int .i64 0, .bool false]) := by
  have hsz : ({ data := l.toArray } : ByteArray).size = l.length := rfl
  have PI : Hid (∀ (s : ByteArray) (w : World), s = { data := (unL l).toArray } → ErrW w → Calls Tryd.prog 49 #[.string s, .int .i64 10, .int .i64 64] w fun e w' => ∃ v t p, e = .returned (.tuple #[.int .i64 v, .iface t p]) ∧ Below w.heap.size w w') := fun s w hs he => by
    subst hs
    refine (parseInt_at (unL l) (by unfold unL; simp; omega) w he).mono ?_
    rintro e w1 ⟨U, h1 | h1⟩
    · obtain ⟨v', hv', _⟩ := h1
      exact absurd hv' (h v')
    · obtain ⟨_, v, t, p, rfl⟩ := h1
      exact ⟨v, t, p, rfl, U⟩
  have UN := un_eq l
  have HE : Hid (ErrW w) := he
  obtain ⟨n, hn⟩ : ∃ n, l.length = n := ⟨_, rfl⟩
  have hn0 : (4 : Int) ≤ (n : Int) := by omega
  have hn1 : (n : Int) ≤ 21 := by omega
  have g1 : 0 ≤ (n : Int) - 3 + 1 ∧ (n : Int) - 3 + 1 ≤ (n : Int) := by omega
  have g2 : 3 ≤ (n : Int) ∧ (n : Int) - 3 ≤ (n : Int) := by omega
  have g3 : ((n : Int) - 3 + 1).toNat = n - 3 + 1 := by omega
  have g4 : ((n : Int) - 3).toNat = n - 3 := by omega
  rw [hn] at hsz UN
  have HU : Hid (∀ i j : Nat, i = n - 3 → j = n - 3 + 1 → ({ data := l.toArray } : ByteArray).extract 0 i ++ ({ data := l.toArray } : ByteArray).extract j n = { data := (unL l).toArray }) := UN
  clear h he UN l0 l1 hn
  generalize ({ data := (unL l).toArray } : ByteArray) = U at *
  generalize ({ data := l.toArray } : ByteArray) = t at *
  have k1 : (0 ≤ (n : Int) - 3 + 1) = True := eq_true (by omega)
  have k0 : IntKind.i64.wrap ((n : Int) - 3 + 1) = (n : Int) - 3 + 1 := wrap_small _ (by omega) (by omega)
  have k2 : ((n : Int) - 3 + 1 ≤ (n : Int)) = True := eq_true (by omega)
  have k3 : (3 ≤ (n : Int)) = True := eq_true (by omega)
  have k4 : ((n : Int) - 3 ≤ (n : Int)) = True := eq_true (by omega)
  have cf := cut_from t n hsz (by omega)
  have ct := cut_to t n hsz (by omega)
  have cf2 := cut_from2 t n hsz (by omega)
  have ct2 := cut_to2 t n hsz (by omega)
  go_enter Tryd.func28, Tryd.ntmps28
  go_wp2_with fail
  go_region_held (fun w' => Below w.heap.size w w' ∧ ErrW w') (first | exact ⟨Below.drew (Below.refl _ _), HE.out.below (Below.drew (Below.refl _ _))⟩ | exact held_err hU (by assumption)) ((go_at_call 49; refine (PI.out _ _ (HU.out _ _ (by omega) (by omega)) (And.right (by assumption))).mono ?_; rintro e w1 ⟨v, ti, pv, rfl, hU⟩))
  all_goals
    have hh : Below w.heap.size w w1 ∧ ErrW w1 := by assumption
    have U2 := hh.1
    clear hh
    go_wp2_with fail
    go_ret2
    exact ⟨U2, rfl⟩
end Go.Proofs.YtpkgdkgbbbbaoaaDoor
