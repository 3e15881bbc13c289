/-
  Ours: lockbox.CheckDigit; the statement's text and CopyBytes.
-/
import Derived.Test.YtnjpmihffenkcaaDoorLbDig
import Derived.Test.YtnjpmihffenkcaaDoorShelf
import Derived.Sort.Grow
import Derived.Lib.ItoaLen
import Derived.Lib.UnsafeStr
import Derived.Laws.IdiomStrings
namespace Go.Proofs.YtnjpmihffenkcaaDoor
open Go.RowKit LbM
theorem grow_below (w : World) (k : Nat) (os : Array Obj) : Below w.heap.size w (Go.Sort.grow (w.drewN k) os) := by
  refine ⟨rfl, rfl, rfl, ?_, fun b hb => ?_⟩
  · show w.heap.size ≤ (w.heap ++ os).size
    rw [Array.size_append]; omega
  · show (w.heap ++ os)[b]? = w.heap[b]?
    rw [Array.getElem?_append_left hb]
/-- The library's table of powers of ten. -/
def TabP (w : World) : Prop := Lib.TabIs Tryd.prog w "internal/strconv.uint64pow10" .u64 Lib.pow10Tab
theorem gP : Tryd.prog.globalNamed "internal/strconv.uint64pow10" = some 4 := by kernel_rfl
theorem TabP.lt {w : World} (h : TabP w) : 4 < w.heap.size := World.block_lt_of_cell? _ _ (h.cell gP 0 (by decide))
theorem TabP.below {w w' : World} (h : TabP w) (b : Below w.heap.size w w') : TabP w' := var?_below b gP h.lt h
theorem itoa_nat (N : Nat) : Lib.itoa (N : Int) = Lib.decDigits N := by
  unfold Lib.itoa
  rw [if_neg (by omega)]
  rfl
theorem checkNum_at (N : Nat) (h : N ≤ 999999) (w : World) (ht : TabP w) : Calls Tryd.prog 36 #[.int .i64 (N : Int)] w fun e w' => e = .returned (.tuple #[.int .i64 ((cd6 N : Nat) : Int), .bool true]) ∧ Below w.heap.size w w' := by
  have IT : Hid (Calls Tryd.prog 58 #[.int .i64 (N : Int)] w fun e w' => e = .returned (.string ⟨(Lib.decDigits N).toArray⟩) ∧ Below w.heap.size w w') := (Tryd.strconv_Itoa (N : Int) (by omega) (by omega) w ht).mono fun e w' ⟨he, j, os, hw⟩ => ⟨by rw [he, itoa_nat], by rw [hw]; exact grow_below w j os⟩
  have CD : Hid (∀ w, Calls Tryd.prog 57 #[.string ⟨(Lib.decDigits N).toArray⟩] w fun e w' => e = .returned (.tuple #[.int .i64 ((cd6 N : Nat) : Int), .bool true]) ∧ w = w') := fun w => by
    have := checkDigit_at (Lib.decDigits N) w (by have := dec_len6 5 N (by omega); omega)
    rw [if_pos (dec_allD N), decide_eq_true (dec_allD N), ckd_dec N (by omega)] at this
    exact this
  have h1 : ¬ ((N : Int) < 0) := by omega
  have h2 : ¬ (999999 < (N : Int)) := by omega
  go_enter Tryd.func36, Tryd.ntmps36
  go_wp2_with fail
  refine IT.out.mono ?_
  rintro e w2 ⟨rfl, b2⟩
  have F : Hid (Below w.heap.size w w2) := b2
  clear b2 IT
  go_wp2_with fail
  refine (CD.out w2).mono ?_
  rintro e w3 ⟨rfl, rfl⟩
  go_wp2_with fail
  go_ret2
  exact ⟨rfl, F.out⟩
theorem checkNum_no (n : Int) (h : ¬ (0 ≤ n ∧ n ≤ 999999)) (w : World) : Calls Tryd.prog 36 #[.int .i64 n] w fun e w' => e = .returned (.tuple #[.int .i64 0, .bool false]) ∧ w = w' := by
  by_cases h1 : n < 0
  · go_enter Tryd.func36, Tryd.ntmps36
    go_wp2_with fail
    go_ret2
    exact ⟨rfl, rfl⟩
  · have h2 : 999999 < n := by omega
    go_enter Tryd.func36, Tryd.ntmps36
    go_wp2_with fail
    go_ret2
    exact ⟨rfl, rfl⟩
theorem conv_nil (w : World) : (convert 26 9 (.slice none 0 0)).run Tryd.prog w = .ok (.string ⟨#[]⟩) w := by kernel_rfl
/-- Bytes as a text. -/
def tx (bs : List Nat) : List UInt8 := bs.map UInt8.ofNat
set_option maxRecDepth 40000 in
theorem conv_bs {w : World} {a : Option Addr} {n c : Nat} {bs : List Nat} (h : RdB w (.slice a n c) bs) (h8 : ∀ x ∈ bs, x < 256) : n = bs.length ∧ (convert 26 9 (.slice a n c)).run Tryd.prog w = .ok (.string ⟨(tx bs).toArray⟩) w := by
  obtain ⟨ao, cap, e, hcap, hnil, H⟩ := h
  injection e with e1 e2 e3
  subst e1 e3
  rw [List.length_map] at e2 hcap
  refine ⟨e2, ?_⟩
  subst e2
  have hl : (tx bs).length = bs.length := List.length_map _
  cases a with
  | none =>
    have h0 := hnil rfl
    have : bs = [] := List.eq_nil_of_length_eq_zero (by omega)
    subst this
    obtain rfl : c = 0 := by simpa using h0
    exact conv_nil w
  | some ad =>
    obtain ⟨g, o, sp⟩ := ad
    rw [← hl]
    by_cases h0 : bs.length = 0
    · have : bs = [] := List.eq_nil_of_length_eq_zero h0
      subst this
      exact run_convert_bytes_back (P := Tryd.prog) w 26 9 5 ⟨g, o, sp⟩ c [] (by kernel_rfl) (by kernel_rfl) (by kernel_rfl) (fun j hj => by simp at hj)
    · obtain ⟨g', o', e1, _, _⟩ := H 0 (by rw [List.length_map]; omega)
      injection e1 with e1
      injection e1 with e2 e3 e4
      subst e2 e3 e4
      refine run_convert_bytes_back (P := Tryd.prog) w 26 9 5 ⟨g, o, none⟩ c (tx bs) (by kernel_rfl) (by kernel_rfl) (by kernel_rfl) (fun j hj => ?_)
      obtain ⟨g', o', e1, _, hc⟩ := H j (by rw [List.length_map]; omega)
      injection e1 with e1
      injection e1 with e2 e3
      subst e2 e3
      have hadd : (⟨g, o, none⟩ : Addr).add j = ⟨g, o + j, none⟩ := by unfold Addr.add; split <;> simp_all
      rw [hadd, hc]
      have hj8 := h8 (bs[j]'(by omega)) (List.getElem_mem _)
      simp only [tx, List.getElem_map, bv]
      congr 3
      simp
      omega
theorem infoB : (Tryd.prog.info? 5).map (fun i => (i.zero, i.size, i.bytes)) = some (some (.int .u8 0), 1, 1) := by kernel_rfl
theorem underB : Tryd.prog.underlying 26 = some (.slice 5) := by kernel_rfl
theorem rowB_push {e : TypeId} {base : Nat} {w : World} {v : Value} {bs : List Nat} {c : Int} {d : Nat} (h : RowV e base w v (bs.map bv ++ [.int .u8 c])) (hc : c = (d : Int)) : RowB e base w v (bs ++ [d]) := by
  subst hc
  simpa [RowB, bv] using h
def NewS (w : World) (bs : List Nat) (e : Ending) (w' : World) : Prop := ∃ a n c, e = .returned (.slice a n c) ∧ RowB 5 w.heap.size w' (.slice a n c) bs ∧ Below w.heap.size w w'
set_option maxRecDepth 20000 in
set_option maxHeartbeats 4000000 in
theorem copyBytes_at (bs : List Nat) (v : Value) (w : World) (hl : bs.length ≤ 140737488351232) (h : RdB w v bs) : Calls Tryd.prog 18 #[v] w (NewS w bs) := by
  obtain ⟨i0, hi, hz0, hz1, hz2⟩ := info_parts infoB
  obtain ⟨ao, cap, rfl, hc, hn, H⟩ := h
  simp only [List.length_map] at *
  have HH : Hid (∀ i, i < bs.length → ∃ g o, ao = some ⟨g, o, none⟩ ∧ g < w.heap.size ∧ w.cell? ⟨g, o + i, none⟩ = some (.int .u8 ((bs.getD i 0 : Nat) : Int)) ∧ bs.take (i + 1) = bs.take i ++ [bs.getD i 0]) := fun i hi => by
    obtain ⟨g, o, e1, e2, e3⟩ := H i (by omega)
    have e4 : bs.getD i 0 = bs[i] := by rw [List.getD_eq_getElem?_getD, List.getElem?_eq_getElem hi]; rfl
    exact ⟨g, o, e1, e2, by rw [e3, e4, List.getElem_map]; rfl, by rw [e4, List.take_add_one, List.getElem?_eq_getElem hi]; rfl⟩
  have HF : Hid (bs.take bs.length = bs) := List.take_length
  have HL : Hid (∀ k, k ≤ bs.length → (bs.take k).length = k) := fun k hk => by rw [List.length_take]; omega
  obtain ⟨L, hL⟩ : ∃ L, bs.length = L := ⟨_, rfl⟩
  rw [hL] at hl HH HF HL hc
  rw [hL]
  clear H hL hn
  go_enter Tryd.func18, Tryd.ntmps18
  go_wp2_with fail
  go_loopw [3, 4] (fun vb vk wr => ∃ (k : Nat) (a : Option Addr) (n c : Nat), vk = .int .i64 (k : Int) ∧ k ≤ L ∧ vb = .slice a n c ∧ Hid (RowB 5 w.heap.size wr (.slice a n c) (bs.take k) ∧ Below w.heap.size w wr)) (fun _ vk _ => L - (intOf vk).toNat)
  case atStart => exact ⟨0, none, 0, 0, rfl, by omega, rfl, ⟨RowV.nil _ _ _, Below.refl _ _⟩⟩
  case round =>
    obtain ⟨k, a, n, c, rfl, hk, rfl, HR⟩ := hrel
    by_cases hlt : (k : Int) < (L : Int)
    · obtain ⟨g, off, rfl, lt, c0, tk⟩ := HH.out k (by omega)
      have cc : wr.cell? ⟨g, off + k, none⟩ = some (.int .u8 ((bs.getD k 0 : Nat) : Int)) := (HR.out.2.cell (p := ⟨g, off + k, none⟩) lt).trans c0
      have TK : Hid (bs.take (k + 1) = bs.take k ++ [bs.getD k 0]) := tk
      have hlen := HL.out k hk
      generalize bs.getD k 0 = x at *
      clear tk c0
      have own1 := HR.out.1
      have hsz1 := HR.out.2.size
      have l1 : ((bs.take k).map bv).length + 1 ≤ maxLen := by rw [List.length_map, hlen]; unfold maxLen; omega
      have l2 : (((bs.take k).map bv).length + 1) * 1 ≤ 140737488355328 := by rw [List.length_map, hlen]; omega
      go_wp2_with (at_builtin; refine wpList_pushV rfl (.tmp 11) (.tmp 16) 26 rfl 5 i0 (.int .u8 0) 1 underB hi hz0 hz1 hz2 rfl w.heap.size _ _ _ rfl rfl own1 hsz1 rfl l1 l2 ?_; intro v3 w3 r3 g3)
      have R3 : Hid (RowB 5 w.heap.size w3 v3 (bs.take (k + 1)) ∧ Below w.heap.size w w3) := ⟨by rw [TK.out]; exact rowB_push r3 rfl, below_grown HR.out.2 own1 (Nat.le_refl _) hsz1 g3⟩
      obtain ⟨a3, c3, rfl, -, -⟩ := (RowV.rd r3).len
      clear r3 g3 own1 HR TK l1 l2 hlen hsz1
      go_wp2_with fail
      go_roundw
      case rel => exact ⟨k + 1, a3, _, c3, by go_num, by omega, rfl, R3⟩
      case measure => simp [intOf]; omega
    · obtain rfl : k = L := by omega
      have HR2 : Hid (RowB 5 w.heap.size wr (.slice a n c) bs ∧ Below w.heap.size w wr) := by rw [HF.out] at HR; exact HR
      clear HR
      go_wp2_with fail
      go_ret
      exact ⟨a, n, c, rfl, HR2.out.1, HR2.out.2⟩
end Go.Proofs.YtnjpmihffenkcaaDoor
