/-
  Ours: Fate.
-/
import Derived.Test.YtcnhcdlbippjoaaNwFate
namespace Go.Proofs.Ytcnhcdlbippjoaa
open Go.RowKit NwM

/-- What Fate makes of a network and a text; its code. -/
def fateC (t : Nt) (s : ByteArray) : Nat := if 64 < s.size then 1 else if allF s = false then 160 else if 4096 < t.fs.length + s.size then 1 else 0
def fateT (t : Nt) (s : ByteArray) : Nt := if fateC t s = 0 then { t with fs := t.fs ++ bytesOf s } else t
theorem allF_each {s : ByteArray} (h : allF s = true) : ∀ b ∈ bytesOf s, isF b := fun b hb => by
  unfold allF at h
  rw [Bool.and_eq_true, List.all_eq_true] at h
  exact of_decide_eq_true (h.1 b hb)
theorem push_net {R : Nat} {S B : Nat → Prop} {bm : Nat} {t : Nt} {fv av : Value} {vs : List Value} {w w2 : World} {a' : Option Addr} {n' c' f : Nat} (h : NetV R bm S B (t.ac.map (·.id)) t fv av vs w) (hF : isF f) (k2 : Kp (fun g => fv.ownBlock = some g) w w2) (hf : FtV w2 (.slice a' n' c') (t.fs ++ [f])) (hat : ∀ g, (Value.slice a' n' c').ownBlock = some g → fv.ownBlock = some g ∨ w.heap.size ≤ g) (hlt : ∀ g, (Value.slice a' n' c').ownBlock = some g → g < w2.heap.size) :
    (∃ S', NPost R S B w { t with fs := t.fs ++ [f] } S' B (w2.setCell ⟨R, 1, none⟩ (.slice a' n' c'))) ∧ w2.cell? ⟨R, 1, none⟩ = some fv ∧ w2.frozen? ⟨R, 1, none⟩ = false := by
  obtain ⟨h1, h2, h3, h4⟩ := h.fates k2 hf hat hlt (fun x hx => by
    rcases List.mem_append.1 hx with hx | hx
    · exact h.fok x hx
    · rw [List.mem_singleton.1 hx]; exact hF)
  exact ⟨⟨_, ⟨bm, _, av, vs, h1⟩, fun g hg => hg.elim .inl (fun e => (hat g e).imp (h.sf g) id), fun _ h => .inl h, fun _ h => h, h2⟩, h3, h4⟩
theorem iter_kp (w : World) (k : Nat) (s : ByteArray) (p : Nat) : Kp (fun g => g = k) w (w.iterAt k s p) := ⟨rfl, rfl, rfl, by rw [Lib.iterAt_size]; exact Nat.le_refl _, fun g _ h => Lib.iterAt_other w k g s p h⟩
set_option maxRecDepth 40000 in
set_option maxHeartbeats 4000000 in
theorem fate_no (R : Nat) (S B : Nat → Prop) (t : Nt) (s : ByteArray) (w : World) (h : NetAt R S B t w) (hfl : t.fs.length ≤ 4096) (hc : fateC t s ≠ 0) :
    Calls Try.prog 9 #[.pointer (some ⟨R, 0, none⟩), .string s] w fun e w' => e = .returned (.int .i64 ((fateC t s : Nat) : Int)) ∧ ∃ S', NPost R S B w (fateT t s) S' B w' := by
  have et : fateT t s = t := by unfold fateT; rw [if_neg hc]
  rw [et]
  have NH : Hid (NetAt R S B t w) := h
  have AF : Hid (s.size ≤ 64 → Calls Try.prog 14 #[.string s] w fun e w' => e = .returned (.bool (allF s)) ∧ Below w.heap.size w w') := areFates_at s w
  by_cases h64 : 64 < s.size
  · have ec : Hid (fateC t s = 1) := by show _ = _; unfold fateC; rw [if_pos h64]
    have d1 : decide ((64 : Int) < (s.size : Int)) = true := decide_eq_true (by omega)
    have FN : Hid (∃ S', NPost R S B w t S' B w) := ⟨S, NPost.refl h (Below.refl _ _)⟩
    clear h AF NH hc et
    go_enter Try.func9, Try.ntmps9
    go_wp2_with fail
    go_ret
    exact ⟨by rw [ec.out]; rfl, FN.out⟩
  · have d1 : decide ((64 : Int) < (s.size : Int)) = false := decide_eq_false (by omega)
    have A1 := AF.out (by omega)
    cases ha : allF s with
    | false =>
      have ec : Hid (fateC t s = 160) := by show _ = _; unfold fateC; rw [if_neg h64, if_pos ha]
      rw [ha] at A1
      have AG : Hid (Calls Try.prog 14 #[.string s] w fun e w' => e = .returned (.bool false) ∧ Below w.heap.size w w') := A1
      have FN : Hid (∀ w', Below w.heap.size w w' → ∃ S', NPost R S B w t S' B w') := fun w' b => ⟨S, NPost.refl h b⟩
      clear h AF NH hc et A1 ha
      go_enter Try.func9, Try.ntmps9
      go_wp2_with fail
      refine AG.out.mono ?_
      rintro e w1 ⟨rfl, b1⟩
      have F1 : Hid (∃ S', NPost R S B w t S' B w1) := FN.out w1 b1
      clear FN b1 AG
      go_wp2_with fail
      go_ret
      exact ⟨by rw [ec.out]; rfl, F1.out⟩
    | true =>
      have hbig : 4096 < t.fs.length + s.size := by
        refine Decidable.byContradiction fun q => hc ?_
        unfold fateC
        rw [if_neg h64, if_neg (by rw [ha]; decide), if_neg q]
      have ec : Hid (fateC t s = 1) := by show _ = _; unfold fateC; rw [if_neg h64, if_neg (by rw [ha]; decide), if_pos hbig]
      rw [ha] at A1
      have AG : Hid (Calls Try.prog 14 #[.string s] w fun e w' => e = .returned (.bool true) ∧ Below w.heap.size w w') := A1
      have FN : Hid (∀ w', Below w.heap.size w w' → ∃ S', NPost R S B w t S' B w') := fun w' b => ⟨S, NPost.refl h b⟩
      obtain ⟨N, hN⟩ : ∃ N, t.fs.length = N := ⟨_, rfl⟩
      have FC : Hid (∀ w', Below w.heap.size w w' → ∃ a c, w'.cell? ⟨R, 1, none⟩ = some (.slice a N c) ∧ R < w'.heap.size) := fun w' b => by
        obtain ⟨bm, fv, av, vs, nv⟩ := h.below b
        obtain ⟨a, c, ev, -⟩ := nv.ft.len
        rw [hN] at ev
        exact ⟨a, c, by rw [nv.c1, ev], nv.lt⟩
      rw [hN] at hbig hfl
      have d2 : decide ((4096 : Int) < (N : Int) + (s.size : Int)) = true := decide_eq_true (by omega)
      have hs64 : s.size ≤ 64 := by omega
      clear h AF NH hc et A1 ha hN
      go_enter Try.func9, Try.ntmps9
      go_wp2_with fail
      refine AG.out.mono ?_
      rintro e w1 ⟨rfl, b1⟩
      have F1 : Hid (∃ S', NPost R S B w t S' B w1) := FN.out w1 b1
      obtain ⟨a, c, c1, lt1⟩ := FC.out w1 b1
      clear FN b1 AG FC
      go_wp2_with fail
      go_ret
      exact ⟨by rw [ec.out]; rfl, F1.out⟩

set_option maxRecDepth 40000 in
set_option maxHeartbeats 4000000 in
theorem fate_ok (R : Nat) (S B : Nat → Prop) (t : Nt) (s : ByteArray) (w : World) (h : NetAt R S B t w) (hc : fateC t s = 0) :
    Calls Try.prog 9 #[.pointer (some ⟨R, 0, none⟩), .string s] w fun e w' => e = .returned (.int .i64 0) ∧ ∃ S', NPost R S B w { t with fs := t.fs ++ bytesOf s } S' B w' := by
  have h64 : ¬ 64 < s.size := fun q => by unfold fateC at hc; rw [if_pos q] at hc; cases hc
  have ha : allF s = true := by
    cases ha : allF s with
    | true => rfl
    | false => unfold fateC at hc; rw [if_neg h64, if_pos ha] at hc; cases hc
  have hbig : ¬ 4096 < t.fs.length + s.size := fun q => by unfold fateC at hc; rw [if_neg h64, if_neg (by rw [ha]; decide), if_pos q] at hc; cases hc
  have d1 : decide ((64 : Int) < (s.size : Int)) = false := decide_eq_false (by omega)
  have A1 := areFates_at s w (by omega)
  rw [ha] at A1
  have AG : Hid (Calls Try.prog 14 #[.string s] w fun e w' => e = .returned (.bool true) ∧ Below w.heap.size w w') := A1
  obtain ⟨N, hN⟩ : ∃ N, t.fs.length = N := ⟨_, rfl⟩
  have FC : Hid (∀ w', Below w.heap.size w w' → ∃ a c, w'.cell? ⟨R, 1, none⟩ = some (.slice a N c) ∧ R < w'.heap.size) := fun w' b => by
    obtain ⟨bm, fv, av, vs, nv⟩ := h.below b
    obtain ⟨a, c, ev, -⟩ := nv.ft.len
    rw [hN] at ev
    exact ⟨a, c, by rw [nv.c1, ev], nv.lt⟩
  have d2 : decide ((4096 : Int) < (N : Int) + (s.size : Int)) = false := decide_eq_false (by omega)
  have hs64 : s.size ≤ 64 := by omega
  have HF : Hid (∀ b ∈ bytesOf s, isF b) := allF_each ha
  have H0 : Hid (NetAt R S B t w ∧ t.fs.length = N) := ⟨h, hN⟩
  have hN4 : N ≤ 4096 := by omega
  clear h hc A1 ha hN hbig h64
  go_enter Try.func9, Try.ntmps9
  go_wp2_with fail
  refine AG.out.mono ?_
  rintro e w1 ⟨rfl, b1⟩
  obtain ⟨a, c, c1, lt1⟩ := FC.out w1 b1
  have D1 : Hid (NPost R S B w t S B (w1.iter s 0) ∧ (w1.iter s 0).heap[w1.heap.size]? = some (.stringIter s 0) ∧ ¬ S w1.heap.size ∧ ¬ B w1.heap.size ∧ w.heap.size ≤ w1.heap.size) := by
    refine ⟨NPost.refl H0.out.1 (below_trans b1 (below_iter w1 s)), iter_at w1 s, fun q => ?_, fun q => ?_, b1.size⟩
    · have := H0.out.1.s q; have := b1.size; omega
    · have := (H0.out.1.b q).1; have := b1.size; omega
  clear b1 AG FC
  go_wp2_with fail
  clear c1 lt1
  obtain ⟨W, hW⟩ : ∃ W, w1.iter s 0 = W := ⟨_, rfl⟩
  rw [hW] at D1
  obtain ⟨J, hJ⟩ : ∃ J, w1.heap.size = J := ⟨_, rfl⟩
  rw [hJ] at D1
  try rw [hW]
  try rw [hJ]
  clear hW hJ
  go_loopw [6] (fun _ wr => ∃ pos : Nat, ∃ Sk, wr.heap[J]? = some (.stringIter s pos) ∧ pos ≤ s.size ∧ NPost R S B w { t with fs := t.fs ++ (bytesOf s).take pos } Sk B wr ∧ ¬ Sk J) (fun _ wr => s.size - wr.iterPos J)
  case atStart => exact ⟨0, S, D1.out.2.1, by omega, by rw [List.take_zero, List.append_nil]; exact D1.out.1, D1.out.2.2.1⟩
  case round =>
    obtain ⟨pos, Sk, hit, hle, hp0, hJ⟩ := hrel
    by_cases hp : pos < s.size
    · have hx := bytesOf_at s pos hp
      have hF := HF.out _ (List.mem_of_getElem? hx)
      have hlt8 : (s[pos]'hp).toNat < 128 := by unfold isF at hF; omega
      have hnx : ∀ ty, (Instr.next (.pointer (some ⟨J, 0, none⟩)) true ty).run Try.prog wr = _ := fun ty => Lib.run_next_ascii_at wr J s pos ty hit hp hlt8
      have e1 : ({ t with fs := t.fs ++ (bytesOf s).take (pos + 1) } : Nt) = { ({ t with fs := t.fs ++ (bytesOf s).take pos } : Nt) with fs := (t.fs ++ (bytesOf s).take pos) ++ [(s[pos]'hp).toNat] } := by
        rw [List.take_add_one, hx, List.append_assoc]; rfl
      have E1 : Hid (({ t with fs := t.fs ++ (bytesOf s).take (pos + 1) } : Nt) = { ({ t with fs := t.fs ++ (bytesOf s).take pos } : Nt) with fs := (t.fs ++ (bytesOf s).take pos) ++ [(s[pos]'hp).toNat] }) := e1
      have hl5 : (t.fs ++ (bytesOf s).take pos).length ≤ 5000 := by rw [List.length_append, List.length_take, bytesOf_len, H0.out.2]; omega
      have ki := iter_kp wr J s (pos + 1)
      have n5 := hp0.net.kp ki (fun g hg e => hJ (e ▸ hg)) (fun g hg e => D1.out.2.2.2.1 (e ▸ hg))
      have P5 : Hid (NPost R S B w { t with fs := t.fs ++ (bytesOf s).take pos } Sk B (wr.iterAt J s (pos + 1)) ∧ (wr.iterAt J s (pos + 1)).heap[J]? = some (.stringIter s (pos + 1)) ∧ wr.heap[J]? = some (.stringIter s pos) ∧ ¬ Sk J) := by
        refine ⟨⟨n5, hp0.s, hp0.b, hp0.bb, hp0.k.trans ki (fun g lt e => ?_)⟩, Lib.iterAt_heap wr J s pos (pos + 1) hit, hit, hJ⟩
        have := D1.out.2.2.2.2
        omega
      have HX : Hid (isF (s[pos]'hp).toNat) := hF
      have FIN : Hid (∀ w', (∃ S', NPost R S B w { ({ t with fs := t.fs ++ (bytesOf s).take pos } : Nt) with fs := (t.fs ++ (bytesOf s).take pos) ++ [(s[pos]'hp).toNat] } S' B w' ∧ ¬ S' J) → w'.heap[J]? = some (.stringIter s (pos + 1)) → ∃ pos : Nat, ∃ Sk, w'.heap[J]? = some (.stringIter s pos) ∧ pos ≤ s.size ∧ NPost R S B w { t with fs := t.fs ++ (bytesOf s).take pos } Sk B w' ∧ ¬ Sk J) := fun w' ⟨S', q1, q2⟩ q3 => ⟨pos + 1, S', q3, by omega, by rw [E1.out]; exact q1, q2⟩
      clear hx hF hlt8 e1 E1 ki n5 hp0 hit hJ
      generalize (s[pos]'hp).toNat = y at *
      have FT : Hid (t.fs ++ (bytesOf s).take pos = ({ t with fs := t.fs ++ (bytesOf s).take pos } : Nt).fs) := rfl
      go_upto_region 10 with fail
      generalize wr.iterAt J s (pos + 1) = w5 at *
      have hfs : ({ t with fs := t.fs ++ (bytesOf s).take pos } : Nt).fs.length ≤ 5000 := hl5
      generalize hT : ({ t with fs := t.fs ++ (bytesOf s).take pos } : Nt) = t5 at *
      have hfs5 : t.fs ++ (bytesOf s).take pos = t5.fs := by rw [← hT]
      rw [hfs5] at FIN
      clear hT FT hfs5
      obtain ⟨bm, fv, av, vs, nv⟩ := P5.out.1.net
      have c1 := nv.c1
      have ltR := nv.lt
      have NV : Hid (NetV R bm Sk B (t5.ac.map (·.id)) t5 fv av vs w5) := nv
      have ltJ : Hid (J < w5.heap.size) := (Array.getElem?_eq_some_iff.1 P5.out.2.1).1
      have FV : Hid (FtV w5 fv t5.fs) := nv.ft
      clear nv hl5
      go_wp2_with (at_builtin; refine wpList_ftPush rfl (.tmp 31) (.tmp 33) rfl _ t5.fs y rfl FV.out rfl hfs ?_; intro a7 n7 c7 w7 f7 k7 x7 l7; have PP := push_net NV.out HX.out k7 f7 x7 l7; obtain ⟨p7, c27, f27⟩ := PP; have P7 : Hid ((∃ S', NPost R Sk B w5 { t5 with fs := t5.fs ++ [y] } S' B (w7.setCell ⟨R, 1, none⟩ (.slice a7 n7 c7)))) := p7; clear p7 f7 k7 x7 l7)
      have F7 : Hid (∃ pos : Nat, ∃ Sk, (w7.setCell ⟨R, 1, none⟩ (.slice a7 n7 c7)).heap[J]? = some (.stringIter s pos) ∧ pos ≤ s.size ∧ NPost R S B w { t with fs := t.fs ++ (bytesOf s).take pos } Sk B (w7.setCell ⟨R, 1, none⟩ (.slice a7 n7 c7)) ∧ ¬ Sk J) := by
        obtain ⟨S7, p7⟩ := P7.out
        exact FIN.out _ ⟨S7, P5.out.1.trans p7, p7.out ltJ.out P5.out.2.2.2⟩ ((p7.k.block J ltJ.out P5.out.2.2.2).trans P5.out.2.1)
      have I7 : Hid ((w7.setCell ⟨R, 1, none⟩ (.slice a7 n7 c7)).heap[J]? = some (.stringIter s (pos + 1))) := by
        obtain ⟨S7, p7⟩ := P7.out
        exact (p7.k.block J ltJ.out P5.out.2.2.2).trans P5.out.2.1
      go_roundw
      case rel => exact F7.out
      case measure =>
        simp only [World.iterPos, I7.out, P5.out.2.2.1]
        omega
    · have hnx : ∀ ty, (Instr.next (.pointer (some ⟨J, 0, none⟩)) true ty).run Try.prog wr = _ := fun ty => Lib.run_next_end_at wr J s pos ty hit hp
      have et : (bytesOf s).take pos = bytesOf s := List.take_of_length_le (by rw [bytesOf_len]; omega)
      rw [et] at hp0
      have FN : Hid (∃ S', NPost R S B w { t with fs := t.fs ++ bytesOf s } S' B wr) := ⟨Sk, hp0⟩
      clear hp0 et hit
      go_wp2_with fail
      go_ret
      exact ⟨rfl, FN.out⟩
end Go.Proofs.Ytcnhcdlbippjoaa
