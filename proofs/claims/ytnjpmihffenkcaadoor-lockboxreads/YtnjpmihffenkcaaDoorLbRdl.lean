/-
  Ours: lockbox.begins, readLine.
-/
import Derived.Test.YtnjpmihffenkcaaDoorLbRdr
import Derived.Test.YtnjpmihffenkcaaDoorLbRfo
import Derived.Laws.IdiomStrings
import Derived.Shelf.Bytes.SlSmallAll
namespace Go.Proofs.YtnjpmihffenkcaaDoor
open Go.RowKit LbM LbF
theorem conv_str (l : List UInt8) (w : World) : ∃ c W, (convert 9 26 (.string ⟨l.toArray⟩)).run Tryd.prog w = .ok (.slice (some ⟨w.heap.size, 0, none⟩) l.length c) W ∧ Rd W (.slice (some ⟨w.heap.size, 0, none⟩) l.length c) (Lib.byteCells l) ∧ Below w.heap.size w W := by
  have h := run_bytes_of_string (P := Tryd.prog) w 9 26 5 ⟨l.toArray⟩ (by kernel_rfl) (by kernel_rfl) (by kernel_rfl)
  refine ⟨_, _, h, ?_, ?_⟩
  · have hge : l.length ≤ grownCap w (⟨l.toArray⟩ : ByteArray).size 0 5 := grownCap_ge w _ _ _
    refine ⟨_, _, by rw [Lib.byteCells_length], by rw [Lib.byteCells_length]; exact hge, (fun e => by cases e), fun i hi => ?_⟩
    rw [Lib.byteCells_length] at hi
    refine ⟨w.heap.size, 0, rfl, ?_, ?_⟩
    · show w.heap.size < (w.drew.heap.push _).size
      rw [Array.size_push]
      exact Nat.lt_succ_self _
    · have hb := bytesRow_at ⟨l.toArray⟩ (grownCap w (⟨l.toArray⟩ : ByteArray).size 0 5) i (by simpa using hi)
      have : ∀ (C : Array Value) (fr : Nat × Nat), (w.drew.alloc (.cells C 5 fr)).cell? ⟨w.heap.size, 0 + i, none⟩ = C[i]? := fun C fr => by
        have := World.cell?_alloc_mark w.drew C 5 fr (0 + i)
        rw [Nat.zero_add] at this ⊢
        exact this
      rw [this, hb]
      simp [Lib.byteCells]
  · exact (Below.drew (Below.refl _ _)).alloc (Nat.le_refl _) _
theorem bytesIn_of {w : World} {a : Option Addr} {n c : Nat} {bs : List Nat} (h : RdB w (.slice a n c) bs) : Lib.BytesIn w a n (bs.map Int.ofNat) := fun hn => by
  obtain ⟨hl, -, -⟩ := rdB_cap h
  obtain ⟨ao, cap, e, hcap, hnil, H⟩ := h
  injection e with e1 e2 e3
  subst e1 e3
  obtain ⟨g, o, e1, _, _⟩ := H 0 (by rw [List.length_map]; omega)
  refine ⟨g, o, e1, fun i hi => ?_⟩
  obtain ⟨g', o', e2', _, c0⟩ := H i (by rw [List.length_map]; omega)
  rw [e1] at e2'
  injection e2' with e2'
  injection e2' with e3 e4
  subst e3 e4
  rw [c0, List.getElem_map, List.getD_eq_getElem?_getD, List.getElem?_map, List.getElem?_eq_getElem (by omega)]
  rfl
theorem pref_one {bs : List Nat} {c : Nat} (h8 : ∀ x ∈ bs, x < 256) (hc : c < 256) : Lib.hasPrefix (Lib.bytesOf (bs.map Int.ofNat)) (Lib.bytesOf [(c : Int)]) = decide (bs.head? = some c) := by
  cases bs with
  | nil => simp [Lib.hasPrefix, Lib.bytesOf]
  | cons x r =>
    have hx := h8 x List.mem_cons_self
    simp only [Lib.hasPrefix, Lib.bytesOf, List.map_cons, List.map_nil, List.isPrefixOf, List.head?_cons, Option.some.injEq]
    rw [Bool.eq_iff_iff]
    simp
    constructor
    · intro h
      have := congrArg UInt8.toNat h
      simp at this
      omega
    · rintro rfl; rfl
theorem ltr_lt (k : Nat) : ltr k < 256 := by unfold ltr; split <;> (try split) <;> decide
set_option maxRecDepth 20000 in
set_option maxHeartbeats 2000000 in
theorem begins_at (k : Nat) (hk : k < 3) (bs : List Nat) (v : Value) (w : World) (hw : FormW w) (h : RdB w v bs) (h8 : ∀ x ∈ bs, x < 256) : Calls Tryd.prog 62 #[v, .int .i64 (k : Int)] w fun e w' => e = .returned (.bool (decide (bs.head? = some (ltr k)))) ∧ Below w.heap.size w w' := by
  obtain ⟨a, c, rfl, -, -⟩ := h.len
  rw [List.length_map] at *
  have c1 := hw.wd k hk
  obtain ⟨cp, W, hcv, rdW, bW⟩ := conv_str [UInt8.ofNat (ltr k)] w
  have PX : Hid (Calls Tryd.prog 77 #[.slice a bs.length c, .slice (some ⟨w.heap.size, 0, none⟩) 1 cp] W fun e w' => e = .returned (.bool (decide (bs.head? = some (ltr k)))) ∧ w' = W) := by
    have hr := Rd.later h bW
    have h2 : RdB W (.slice (some ⟨w.heap.size, 0, none⟩) 1 cp) [ltr k] := by
      have e : Lib.byteCells [UInt8.ofNat (ltr k)] = [ltr k].map bv := by
        have := ltr_lt k
        simp [Lib.byteCells, bv]
        omega
      rw [e] at rdW
      exact rdW
    have := Tryd.bytes_HasPrefix_all a (some ⟨w.heap.size, 0, none⟩) bs.length c 1 cp (bs.map Int.ofNat) ([ltr k].map Int.ofNat) W (by simp) rfl (rdB_cap h).2.1 (bytesIn_of hr) (bytesIn_of h2)
    rw [show ([ltr k].map Int.ofNat) = [((ltr k : Nat) : Int)] from rfl, pref_one h8 (ltr_lt k)] at this
    exact this
  have BW : Hid (Below w.heap.size w W) := bW
  have hcv' : (convert 9 26 (.string ⟨#[UInt8.ofNat (ltr k)]⟩)).run Tryd.prog w = .ok (.slice (some ⟨w.heap.size, 0, none⟩) 1 cp) W := hcv
  generalize decide (bs.head? = some (ltr k)) = r at *
  generalize bs.length = n at *
  clear h rdW bW hw hcv
  go_enter Tryd.func62, Tryd.ntmps62
  go_wp2_with fail
  refine PX.out.mono ?_
  rintro e w2 ⟨rfl, rfl⟩
  go_wp2_with fail
  go_ret
  exact ⟨rfl, BW.out⟩
/-- bytes.CutPrefix of a line's end. -/
theorem cut_at (a : Option Addr) (n c N : Nat) (bs : List Nat) (w : World) (h : RdB w (.slice a n c) bs) (h8 : ∀ x ∈ bs, x < 256) (hlt : N < w.heap.size) (hN : w.cell? ⟨N, 0, none⟩ = some (.int .u8 10)) :
    Calls Tryd.prog 75 #[.slice a n c, .slice (some ⟨N, 0, none⟩) 1 1] w fun e w' => w' = w ∧ ∃ v', e = .returned (.tuple #[v', .bool (decide (bs.head? = some 10))]) ∧ (bs.head? = some 10 → ∀ w0, RdB w0 (.slice a n c) bs → RdB w0 v' bs.tail) := by
  obtain ⟨hl, hnc, hnl⟩ := rdB_cap h
  have h2 : RdB w (.slice (some ⟨N, 0, none⟩) 1 1) [10] := ⟨_, _, rfl, Nat.le_refl _, (fun e => by cases e), fun i hi => by
    obtain rfl : i = 0 := by simpa using hi
    exact ⟨N, 0, rfl, hlt, hN⟩⟩
  have := Tryd.bytes_CutPrefix_all a (some ⟨N, 0, none⟩) n c 1 1 (bs.map Int.ofNat) ([10].map Int.ofNat) w (by rw [List.length_map, hl]) rfl hnc (bytesIn_of h) (bytesIn_of h2)
  have hp0 : Lib.hasPrefix (Lib.bytesOf (bs.map Int.ofNat)) (Lib.bytesOf ([10].map Int.ofNat)) = decide (bs.head? = some 10) := pref_one h8 (by decide)
  rw [hp0] at this
  refine this.mono fun e w' ⟨he, hw⟩ => ⟨hw, Lib.trimPrefixV a n c (bs.map Int.ofNat) ([10].map Int.ofNat), he, fun hh w0 h0 => ?_⟩
  clear hp0 this h h2 hN hlt
  cases bs with
  | nil => cases hh
  | cons x r =>
    injection hh with hh
    subst hh
    obtain ⟨ao, cap, e1, _, _, H⟩ := h0
    injection e1 with e1 e2 e3
    subst e1 e3
    obtain ⟨g, o, e4, lt, c0⟩ := H 0 (by simp)
    subst e4
    have hp := pref_one (bs := 10 :: r) h8 (c := 10) (by decide)
    show RdB w0 (Lib.trimPrefixV (some ⟨g, o, none⟩) n c ((10 :: r).map Int.ofNat) [((10 : Nat) : Int)]) r
    unfold Lib.trimPrefixV Lib.bytesTrimPrefix
    simp only
    rw [hp, if_pos (by simp)]
    unfold Lib.sliceFrom
    have hA : ((if c = 1 then some ⟨g, o, none⟩ else some ⟨g, o + 1, none⟩ : Option Addr) = none → c - 1 = 0) ∧ ∀ g' o', 1 < c → some (⟨g, o, none⟩ : Addr) = some ⟨g', o', none⟩ → (if c = 1 then some ⟨g, o, none⟩ else some ⟨g, o + 1, none⟩ : Option Addr) = some ⟨g', o' + 1, none⟩ := by
      refine ⟨(fun e => by split at e <;> cases e), fun g' o' h1 e => ?_⟩
      rw [if_neg (by omega)]
      injection e with e
      injection e with e1 e2
      subst e1 e2
      rfl
    have q := rdB_from (p := 1) (⟨some ⟨g, o, none⟩, c, by simp at e2 ⊢; omega, by simp at *; omega, (fun e => by cases e), H⟩ : RdB w0 (.slice (some ⟨g, o, none⟩) n c) (10 :: r)) (by simp at hl; omega) hA
    exact q
end Go.Proofs.YtnjpmihffenkcaaDoor
