/-
  Ours: bytes.IndexByte, bytes.Index and bytes.Cut at a separator of one byte; bytes.Equal and bytes.HasPrefix at one.
-/
import Derived.Test.YtkjnklagjhhhkaaScOwn
import Derived.Test.YtkjnklagjhhhkaaScM
import Derived.Lib.BytesEntry
import Derived.Lib.SlBytesConst
import Derived.Laws.Externs
import Derived.Deep.QuietTactic
import Derived.BigQuiet
namespace Go.Proofs.Ytkjnklagjhhhkaa
open Go.RowKit

theorem ints_getD (bs : List Nat) (i : Nat) (h : i < bs.length) : (bs.map Int.ofNat).getD i 0 = ((bs.getD i 0 : Nat) : Int) := by
  simp [List.getD_eq_getElem?_getD, List.getElem?_eq_getElem h]
theorem RdB.cell {w : World} {ao : Option Addr} {n cap : Nat} {bs : List Nat} (h : RdB w (.slice ao n cap) bs) : n = bs.length ∧ n ≤ cap ∧ ∀ i, i < n → ∃ g o, ao = some ⟨g, o, none⟩ ∧ g < w.heap.size ∧ w.cell? ⟨g, o + i, none⟩ = some (.int .u8 ((bs.getD i 0 : Nat) : Int)) := by
  obtain ⟨ao', c', e, h1, _, H⟩ := h
  injection e with e1 e2 e3
  subst e1 e3
  rw [List.length_map] at e2 h1
  subst e2
  refine ⟨rfl, h1, fun i hi => ?_⟩
  obtain ⟨g, o, e1, lt, e2⟩ := H i (by rw [List.length_map]; exact hi)
  exact ⟨g, o, e1, lt, by rw [e2, getD_bv]⟩

set_option maxHeartbeats 1000000 in
theorem indexByte_at (c : Nat) (bs : List Nat) (v : Value) (w : World) (h : RdB w v bs) :
    Calls Try.prog 13 #[v, .int .u8 (c : Int)] w fun e w' => e = .returned (.int .i64 (ScM.ix c bs)) ∧ w' = w := by
  obtain ⟨ao, cap, rfl, hcap, hnil⟩ := h.len
  obtain ⟨-, -, H⟩ := RdB.cell h
  have RUN : ∀ args, args = #[.slice ao (bs.map bv).length cap, .int .u8 (c : Int)] → (Extern.BytealgIndexByte.indexByte args).run Try.prog w = .ok (.int .i64 (ScM.ix c bs)) w := fun args e => by
    subst e
    have hl : (bs.map bv).length = bs.length := List.length_map ..
    have hu : ((c : Int).toNat).toUInt8 = UInt8.ofNat c := by simp
    rw [hl] at hcap H ⊢
    cases ao with
    | none =>
      have : bs = [] := List.eq_nil_of_length_eq_zero (by have := hnil rfl; omega)
      subst this
      exact Lib.run_indexByteNil w _ _ _
    | some ad =>
      by_cases h0 : bs.length = 0
      · obtain rfl : bs = [] := List.eq_nil_of_length_eq_zero h0
        obtain ⟨b, o, s⟩ := ad
        have := Lib.run_indexByteNil (P := Try.prog) w 0 0 (c : Int)
        exact this
      · obtain ⟨g, o, e, _, _⟩ := H 0 (by omega)
        injection e with e
        subst e
        have := Lib.run_indexByteSlice (P := Try.prog) w g o bs.length cap (bs.map Int.ofNat) (by simp) (fun i hi => by
          obtain ⟨g', o', e, _, hc⟩ := H i hi
          injection e with e
          injection e with e1 e2
          subst e1 e2
          rw [hc, ints_getD _ _ hi]) (c : Int)
        rw [this, hu]
        rfl
  generalize (bs.map bv).length = L at *
  generalize ScM.ix c bs = X at *
  clear H h hcap hnil
  go_enter Try.func13, Try.ntmps13
  go_wp2
  rw [run_callFunc_extern Try.func17 (by kernel_rfl) (by kernel_rfl) (by kernel_rfl) (e := Extern.BytealgIndexByte.indexByte) (by kernel_rfl), RUN _ rfl]
  simp only [Result.andThen]
  rw [Oper.upon_value]
  go_wp2
  go_ret
  exact ⟨rfl, rfl⟩

set_option maxRecDepth 1000000 in
set_option maxHeartbeats 1000000 in
theorem index1_at (c : Nat) (bs : List Nat) (v : Value) (g2 : Nat) (w : World) (h : RdB w v bs) (h2 : w.cell? ⟨g2, 0, none⟩ = some (.int .u8 (c : Int))) :
    Calls Try.prog 11 #[v, .slice (some ⟨g2, 0, none⟩) 1 1] w fun e w' => e = .returned (.int .i64 (ScM.ix c bs)) ∧ w' = w := by
  have IB : Hid (Calls Try.prog 13 #[v, .int .u8 (c : Int)] w fun e w' => e = .returned (.int .i64 (ScM.ix c bs)) ∧ w' = w) := indexByte_at c bs v w h
  obtain ⟨ao, cap, rfl, _, _⟩ := h.len
  generalize (bs.map bv).length = L at *
  generalize ScM.ix c bs = X at *
  clear h
  go_enter Try.func11, Try.ntmps11
  go_wp2_with (go_at_call 13; refine IB.out.mono ?_; rintro e w' ⟨rfl, hw⟩; rw [hw]; clear hw w')
  go_ret
  exact ⟨rfl, rfl⟩

/-- Cut's answer. -/
def CutAns (bs : List Nat) (ao : Option Addr) (cap : Nat) (w : World) (e : Ending) (w' : World) : Prop := ∃ n, w' = w.drewN n ∧
  ((10 ∉ bs ∧ e = .returned (.tuple #[.slice ao bs.length cap, .slice none 0 0, .bool false])) ∨
   ∃ i ad, i < bs.length ∧ bs = bs.take i ++ 10 :: bs.drop (i + 1) ∧ 10 ∉ bs.take i ∧ e = .returned (.tuple #[.slice ao i cap, .slice ad (bs.length - (i + 1)) (cap - (i + 1)), .bool true]) ∧ ∀ w0, RdB w0 (.slice ao bs.length cap) bs → RdB w0 (.slice ad (bs.length - (i + 1)) (cap - (i + 1))) (bs.drop (i + 1)))

set_option maxHeartbeats 1000000 in
theorem cut1_at (bs : List Nat) (ao : Option Addr) (cap g2 : Nat) (w : World) (hb : ∀ b ∈ bs, b < 256) (hl : bs.length ≤ 1000000000) (h : RdB w (.slice ao bs.length cap) bs) (h2 : w.cell? ⟨g2, 0, none⟩ = some (.int .u8 10)) :
    Calls Try.prog 8 #[.slice ao bs.length cap, .slice (some ⟨g2, 0, none⟩) 1 1] w (CutAns bs ao cap w) := by
  have IX : Hid (Calls Try.prog 11 #[.slice ao bs.length cap, .slice (some ⟨g2, 0, none⟩) 1 1] w fun e w' => e = .returned (.int .i64 (ScM.ix 10 bs)) ∧ w' = w) := index1_at 10 bs _ g2 w h h2
  obtain ⟨-, hcap, -⟩ := RdB.cell h
  unfold CutAns
  by_cases hx : ScM.ix 10 bs = -1
  · rw [hx] at IX
    have N := ScM.ix_none hx
    have HN : Hid (10 ∉ bs) := N
    clear h h2 hb N hx
    go_enter Try.func8, Try.ntmps8
    go_wp2_with (go_at_call 11; refine IX.out.mono ?_; rintro e w' ⟨rfl, hw⟩; rw [hw]; clear hw w')
    go_ret3
    exact ⟨0, rfl, .inl ⟨HN.out, rfl⟩⟩
  · obtain ⟨i, hi⟩ : ∃ i : Nat, ScM.ix 10 bs = (i : Int) := ⟨(ScM.ix 10 bs).toNat, by have := ScM.ix_ge 10 bs; omega⟩
    obtain ⟨q1, q2, q3⟩ := ScM.ix_some (by decide) hb hi
    rw [hi] at IX
    have hr := fun (w0 : World) (h0 : RdB w0 (.slice ao bs.length cap) bs) => RdB.from (A := i + 1) h0 (by omega)
    have FIN : Hid (∀ n ad, ad = (if i + 1 = cap then ao else ao.map (fun x => x.add (i + 1))) → ∃ n', w.drewN n = w.drewN n' ∧ ((10 ∉ bs ∧ Ending.returned (.tuple #[.slice ao i cap, .slice ad (bs.length - (i + 1)) (cap - (i + 1)), .bool true]) = .returned (.tuple #[.slice ao bs.length cap, .slice none 0 0, .bool false])) ∨
       ∃ i' ad', i' < bs.length ∧ bs = bs.take i' ++ 10 :: bs.drop (i' + 1) ∧ 10 ∉ bs.take i' ∧ Ending.returned (.tuple #[.slice ao i cap, .slice ad (bs.length - (i + 1)) (cap - (i + 1)), .bool true]) = .returned (.tuple #[.slice ao i' cap, .slice ad' (bs.length - (i' + 1)) (cap - (i' + 1)), .bool true]) ∧ ∀ w0, RdB w0 (.slice ao bs.length cap) bs → RdB w0 (.slice ad' (bs.length - (i' + 1)) (cap - (i' + 1))) (bs.drop (i' + 1)))) := fun n ad e => by
      subst e
      exact ⟨n, rfl, .inr ⟨i, _, q1, q2, q3, rfl, hr⟩⟩
    have hx' : ¬ ((i : Int) = -1) := by omega
    clear h h2 hb hx q2 q3 hr hi
    obtain ⟨ao', hao⟩ : ∃ ao', (if i + 1 = cap then ao else ao.map (fun x => x.add (i + 1))) = ao' := ⟨_, rfl⟩
    generalize bs.length = L at *
    by_cases hce : i + 1 = cap
    · subst hce
      obtain rfl : L = i + 1 := by omega
      simp only [Nat.sub_self] at FIN
      go_enter Try.func8, Try.ntmps8
      go_wp2_with (go_at_call 11; refine IX.out.mono ?_; rintro e w' ⟨rfl, hw⟩; rw [hw]; clear hw w')
      go_quiet (fail)
      go_wp2_with fail
      go_ret3
      exact FIN.out _ _ (by simp)
    · go_enter Try.func8, Try.ntmps8
      go_wp2_with (go_at_call 11; refine IX.out.mono ?_; rintro e w' ⟨rfl, hw⟩; rw [hw]; clear hw w')
      go_quiet (fail)
      go_wp2_with fail
      go_ret3
      exact FIN.out _ _ (by rw [if_neg hce]; congr 1)

theorem conv1 (w : World) (ao : Option Addr) (cap g o c : Nat) (ha : ao = some ⟨g, o, none⟩) (hc : w.cell? ⟨g, o, none⟩ = some (.int .u8 (c : Int))) (hlt : c < 256) :
    (convert 22 9 (.slice ao 1 cap)).run Try.prog w = .ok (.string ⟨#[UInt8.ofNat c]⟩) w := by
  subst ha
  have h := run_convert_bytes_back (P := Try.prog) w 22 9 5 ⟨g, o, none⟩ cap [UInt8.ofNat c] (by kernel_rfl) (by kernel_rfl) (by kernel_rfl) (fun j hj => by
    have hj0 : j = 0 := by simpa using hj
    subst hj0
    have e : (⟨g, o, none⟩ : Addr).add 0 = ⟨g, o, none⟩ := by simp [Addr.add]
    rw [e, hc]
    have e2 : (UInt8.ofNat c).toNat = c := by simp; omega
    simp [e2])
  exact h
theorem str1_eq (c d : Nat) (hc : c < 256) (hd : d < 256) : (UInt8.ofNat c == UInt8.ofNat d) = decide (c = d) := by
  rw [Bool.eq_iff_iff]
  simp
  exact ⟨fun h => ScM.u8_inj hc hd h, fun h => by rw [h]⟩

set_option maxHeartbeats 1000000 in
theorem prefix1_at (c d : Nat) (ao : Option Addr) (L cap g2 : Nat) (w : World) (hlt : c < 256) (hd : d < 256) (h0 : 0 < L) (hL : L ≤ cap) (g o : Nat) (ha : ao = some ⟨g, o, none⟩) (hc : w.cell? ⟨g, o, none⟩ = some (.int .u8 (c : Int))) (h2 : w.cell? ⟨g2, 0, none⟩ = some (.int .u8 (d : Int))) :
    Calls Try.prog 9 #[.slice ao L cap, .slice (some ⟨g2, 0, none⟩) 1 1] w fun e w' => e = .returned (.bool (decide (c = d))) ∧ w' = w := by
  subst ha
  have k1 := conv1 w (some ⟨g, o, none⟩) cap g o c rfl hc hlt
  have k2 := conv1 w (some ⟨g2, 0, none⟩) 1 g2 0 d rfl h2 hd
  have k3 := str1_eq c d hlt hd
  have EQ : Hid (Calls Try.prog 12 #[.slice (some ⟨g, o, none⟩) 1 cap, .slice (some ⟨g2, 0, none⟩) 1 1] w fun e w' => e = .returned (.bool (decide (c = d))) ∧ w' = w) := by
    clear hc h2
    generalize decide (c = d) = B at *
    go_enter Try.func12, Try.ntmps12
    go_wp2_with fail
    go_ret
    exact ⟨rfl, rfl⟩
  clear hc h2 k1 k2 k3
  have hl : ¬ ((L : Int) < 1) := by omega
  have hl1 : (1 : Int) ≤ (L : Int) := by omega
  generalize decide (c = d) = B at *
  go_enter Try.func9, Try.ntmps9
  go_wp2_with (go_at_call 12; refine EQ.out.mono ?_; rintro e w' ⟨rfl, hw⟩; rw [hw]; clear hw w')
  go_ret
  exact ⟨rfl, rfl⟩
end Go.Proofs.Ytkjnklagjhhhkaa
