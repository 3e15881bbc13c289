/-
  Ours: texts and bools, told and read.
-/
import Derived.Test.YtdbjjeaflfoppaaWirInt
import Derived.Test.YtdbjjeaflfoppaaWirTold
import Derived.Laws.IdiomStrings
namespace Go.Proofs.Ytdbjjeaflfoppaa
open Go.RowKit

theorem putI_len (y : Int) (h : -9223372036854775808 ≤ y ∧ y ≤ 9223372036854775807) : (putI y).length ≤ 10 := put_len10 _ (zz_lt y h.1 h.2)

theorem RdB.at {w : World} {ao : Option Addr} {n cap : Nat} {bs : List Nat} (h : RdB w (.slice ao n cap) bs) {i : Nat} (hi : i < bs.length) : ∃ g o, ao = some ⟨g, o, none⟩ ∧ g < w.heap.size ∧ w.cell? ⟨g, o + i, none⟩ = some (.int .u8 (bs.getD i 0 : Nat)) := by
  obtain ⟨ao', cap', e, _, _, H⟩ := h
  cases e
  obtain ⟨g, o, e1, lt, e2⟩ := H i (by rw [List.length_map]; exact hi)
  refine ⟨g, o, e1, lt, ?_⟩
  rw [e2, List.getElem_map, List.getD_eq_getElem?_getD, List.getElem?_eq_getElem hi]; rfl

theorem take_step (bs : List Nat) (k : Nat) (h : k < bs.length) : bs.take (k + 1) = bs.take k ++ [bs.getD k 0] := by
  rw [List.take_add_one, List.getD_eq_getElem?_getD, List.getElem?_eq_getElem h]; rfl

/-- How many follow, and the place of the first. -/
def lenR (bs : List Nat) (p : Int) : Option (Nat × Nat) := match rd bs p with
  | some (v, n) => if v ≤ bs.length - n then some (v, n) else none
  | none => none

def lenAns (r : Option (Nat × Nat)) : Ending := match r with
  | some (v, n) => .returned (.tuple #[.int .i64 (v : Int), .int .i64 (n : Int), .bool true])
  | none => .returned (.tuple #[.int .i64 0, .int .i64 0, .bool false])

theorem lenR_le {bs : List Nat} {p : Int} {v n : Nat} (hb : ∀ c ∈ bs, c < 256) (h : lenR bs p = some (v, n)) : rd bs p = some (v, n) ∧ 0 ≤ p ∧ p < n ∧ n + v ≤ bs.length := by
  unfold lenR at h
  cases hr : rd bs p with
  | none => rw [hr] at h; cases h
  | some q =>
    obtain ⟨a, b⟩ := q
    rw [hr] at h
    simp only at h
    split at h
    · cases h
      have := rd_le bs p v n hb hr
      exact ⟨rfl, this.1, this.2.1, by omega⟩
    · cases h

set_option maxRecDepth 20000 in
set_option maxHeartbeats 2000000 in
theorem length_at (bs : List Nat) (p : Int) (v : Value) (w : World) (hb : ∀ c ∈ bs, c < 256) (hl : bs.length ≤ 140737488355328) (p0 : -9223372036854775808 ≤ p) (p1 : p ≤ 9223372036854775807) (h : RdB w v bs) :
    Calls Try.prog 127 #[v, .int .i64 p] w fun e w' => e = lenAns (lenR bs p) ∧ w' = w := by
  have C : Hid (Calls Try.prog 43 #[v, .int .i64 p] w fun e w' => e = rdAns (rd bs p) ∧ w' = w) := uint_at bs p v w hb hl p0 p1 h
  obtain ⟨L, hL⟩ : ∃ L, bs.length = L := ⟨_, rfl⟩
  obtain ⟨ao, cap, rfl, hcap, hn⟩ := h.len
  unfold lenR
  rw [List.length_map, hL] at hcap C ⊢
  cases hr : rd bs p with
  | none =>
    rw [hr] at C
    clear hr h
    go_enter Try.func127, Try.ntmps127
    go_wp2_with fail
    refine C.out.mono ?_
    rintro e w1 ⟨rfl, hw⟩; rw [hw]; clear hw w1
    simp only [rdAns]
    go_wp2_with fail
    go_ret3
    exact ⟨rfl, rfl⟩
  | some q =>
    obtain ⟨u, n⟩ := q
    obtain ⟨_, _, hn1, hu⟩ := rd_le bs p u n hb hr
    rw [hr] at C
    rw [hL] at hl hn1
    clear hr h hL hb
    have e1 : ((L : Int) - (n : Int)) = ((L - n : Nat) : Int) := by omega
    simp only
    by_cases hc : u ≤ L - n
    · rw [if_pos hc]
      have d : decide ((L : Int) - (n : Int) < (u : Int)) = false := decide_eq_false (by omega)
      go_enter Try.func127, Try.ntmps127
      go_wp2_with fail
      refine C.out.mono ?_
      rintro e w1 ⟨rfl, hw⟩; rw [hw]; clear hw w1
      simp only [rdAns]
      go_wp2_with fail
      go_ret3
      exact ⟨rfl, rfl⟩
    · rw [if_neg hc]
      have d : decide ((L : Int) - (n : Int) < (u : Int)) = true := decide_eq_true (by omega)
      go_enter Try.func127, Try.ntmps127
      go_wp2_with fail
      refine C.out.mono ?_
      rintro e w1 ⟨rfl, hw⟩; rw [hw]; clear hw w1
      simp only [rdAns]
      go_wp2_with fail
      go_ret3
      exact ⟨rfl, rfl⟩

def sB (s : ByteArray) : List Nat := s.data.toList.map UInt8.toNat

def textOf (ts : List Nat) : ByteArray := ⟨(ts.map UInt8.ofNat).toArray⟩

theorem textOf_sB (s : ByteArray) : textOf (sB s) = s := by
  apply ByteArray.ext
  simp [textOf, sB, List.map_map, Function.comp_def]

theorem sB_len (s : ByteArray) : (sB s).length = s.size := by rw [sB, List.length_map, Array.length_toList]; rfl

theorem sB_byte (s : ByteArray) : ∀ c ∈ sB s, c < 256 := fun c hc => by
  obtain ⟨b, _, rfl⟩ := List.mem_map.1 hc
  exact b.toNat_lt

theorem strCells_sB (s : ByteArray) : Lib.strCells s = (sB s).map bv := by
  simp [Lib.strCells, sB, bv, Function.comp_def]

theorem underS : Try.prog.underlying 9 = some .string := by kernel_rfl

theorem underU8 : Try.prog.underlying 5 = some (.int .u8) := by kernel_rfl

def putB (z : Bool) : List Nat := if z then [1] else [0]

def putT (ts : List Nat) : List Nat := put ts.length ++ ts

theorem newB_one (w : World) (c : Nat) : RowB 5 w.heap.size (w.alloc (.cells #[.int .u8 (c : Int)] 5)) (.slice (some ⟨w.heap.size, 0, none⟩) 1 1) [c] := by
  refine ⟨rfl, .inr ⟨w.heap.size, 1, _, rfl, Nat.le_refl _, MapKept.heap_alloc w _ |>.1, Nat.le_refl _, (by decide), rfl, rfl⟩⟩

theorem putBool_at (z : Bool) (w : World) : Calls Try.prog 60 #[.bool z] w (NewB w (putB z)) := by
  cases z
  · go_enter Try.func60, Try.ntmps60
    go_wp2_with fail
    go_ret
    exact ⟨_, rfl, newB_one w 0, below_alloc _ _⟩
  · go_enter Try.func60, Try.ntmps60
    go_wp2_with fail
    go_ret
    exact ⟨_, rfl, newB_one w 1, below_alloc _ _⟩

set_option maxRecDepth 20000 in
theorem putText_at (s : ByteArray) (w : World) (hl : s.size ≤ 140737488351232) : Calls Try.prog 48 #[.string s] w (NewB w (putT (sB s))) := by
  obtain ⟨i0, hi, hz0, hz1, hz2⟩ := info_parts infoB
  have U : Hid (Calls Try.prog 35 #[.int .u64 (s.size : Int)] w (NewB w (put s.size))) := putUint_at _ (by omega) w
  have lp := put_len10 s.size (by omega)
  go_enter Try.func48, Try.ntmps48
  go_wp2_with fail
  refine U.out.mono ?_
  rintro e w1 ⟨v1, rfl, r1, b1⟩
  have hsz := b1.size
  have l1 : ((put s.size).map bv).length + s.size ≤ maxLen := by rw [List.length_map]; unfold maxLen; omega
  have l2 : ((put s.size).map bv).length + s.size ≤ 140737488355328 := by rw [List.length_map]; omega
  go_wp2_with (at_builtin; refine Lib.wpList_append_own_string _ rfl (.tmp 6) (.tmp 7) 33 9 rfl w.heap.size 5 i0 underB underS hi hz0 hz1 hz2 _ _ _ rfl r1 s rfl l1 l2 hsz ?_; intro v' w2 hown' hgr _)
  go_ret
  refine ⟨_, rfl, ?_, below_grown b1 r1 (Nat.le_refl _) hsz hgr⟩
  rw [strCells_sB] at hown'
  simpa [RowB, RowV, putT, sB_len] using hown'

/-- A text at a place. -/
def textR (bs : List Nat) (p : Int) : Option (List Nat × Nat) := match lenR bs p with
  | some (n, f) => some ((bs.drop f).take n, f + n)
  | none => none

def textAns (r : Option (List Nat × Nat)) : Ending := match r with
  | some (ts, n) => .returned (.tuple #[.string (textOf ts), .int .i64 (n : Int), .bool true])
  | none => .returned (.tuple #[.string ⟨#[]⟩, .int .i64 0, .bool false])

set_option maxRecDepth 20000 in
theorem text_at (bs : List Nat) (p : Int) (v : Value) (w : World) (hb : ∀ c ∈ bs, c < 256) (hl : bs.length ≤ 140737488355328) (p0 : -9223372036854775808 ≤ p) (p1 : p ≤ 9223372036854775807) (h : RdB w v bs) :
    Calls Try.prog 95 #[v, .int .i64 p] w fun e w' => e = textAns (textR bs p) ∧ w' = w := by
  have C : Hid (Calls Try.prog 127 #[v, .int .i64 p] w fun e w' => e = lenAns (lenR bs p) ∧ w' = w) := length_at bs p v w hb hl p0 p1 h
  obtain ⟨L, hL⟩ : ∃ L, bs.length = L := ⟨_, rfl⟩
  obtain ⟨ao, cap, rfl, hcap, hn⟩ := h.len
  unfold textR
  rw [List.length_map, hL] at hcap C h ⊢
  cases hr : lenR bs p with
  | none =>
    rw [hr] at C
    clear hr h
    go_enter Try.func95, Try.ntmps95
    go_wp2_with fail
    refine C.out.mono ?_
    rintro e w1 ⟨rfl, hw⟩; rw [hw]; clear hw w1
    simp only [lenAns]
    go_wp2_with fail
    go_ret3
    exact ⟨rfl, rfl⟩
  | some q =>
    obtain ⟨n, f⟩ := q
    obtain ⟨_, f0, f1, f2⟩ := lenR_le hb hr
    rw [hr] at C
    rw [hL] at f2 hl
    obtain ⟨g, o, rfl, lt⟩ := h.addr (by omega)
    have hlt : ((bs.drop f).take n).length = n := by simp; omega
    have CV : ∀ c a, (n = 0 ∨ a = ⟨g, o + f, none⟩) → (convert 33 9 (.slice (some a) n c)).run Try.prog w = .ok (.string (textOf ((bs.drop f).take n))) w := fun c a ha => by
      have := run_convert_bytes_back (P := Try.prog) w 33 9 5 a c (((bs.drop f).take n).map UInt8.ofNat) underB underU8 underS (fun j hj => by
        rw [List.length_map, hlt] at hj
        rcases ha with h0 | rfl
        · omega
        · obtain ⟨g', o', e1, _, e2⟩ := RdB.at h (i := f + j) (by omega)
          cases e1
          have hadd : (⟨g, o + f, none⟩ : Addr).add j = ⟨g, o + (f + j), none⟩ := by unfold Addr.add; split <;> simp_all [Nat.add_assoc]
          rw [hadd, e2]
          have lt1 : f + j < bs.length := by omega
          have b1 := hb _ (List.getElem_mem lt1)
          simp [List.getD_eq_getElem?_getD, List.getElem?_eq_getElem lt1]
          omega)
      rw [List.length_map, hlt] at this
      exact this
    clear hlt
    simp only
    generalize (bs.drop f).take n = ts at *
    have F : Hid (∀ S, S = textOf ts → ∀ m : Int, m = ((f + n : Nat) : Int) → Ending.returned (.tuple #[.string S, .int .i64 m, .bool true]) = textAns (some (ts, f + n))) := fun S h1 m h2 => by rw [h1, h2]; rfl
    clear hr h hL hb
    obtain ⟨S, hS⟩ : ∃ S, textOf ts = S := ⟨_, rfl⟩
    have HS : Hid (S = textOf ts) := hS.symm
    rw [hS] at CV
    clear hS
    by_cases hc : cap = f
    · subst hc
      obtain rfl : n = 0 := by omega
      have cv := CV 0 ⟨g, o, none⟩ (.inl rfl)
      clear CV
      go_enter Try.func95, Try.ntmps95
      go_wp2_with fail
      refine C.out.mono ?_
      rintro e w1 ⟨rfl, hw⟩; rw [hw]; clear hw w1
      simp only [lenAns]
      go_wp2_with fail
      go_ret3
      exact ⟨F.out S HS.out _ (by omega), rfl⟩
    · have cv := CV (cap - f) ⟨g, o + f, none⟩ (.inr rfl)
      have z2 : (cap - f == 0) = false := by rw [beq_eq_false_iff_ne]; omega
      clear CV
      go_enter Try.func95, Try.ntmps95
      go_wp2_with fail
      refine C.out.mono ?_
      rintro e w1 ⟨rfl, hw⟩; rw [hw]; clear hw w1
      simp only [lenAns]
      go_wp2_with fail
      go_ret3
      exact ⟨F.out S HS.out _ (by omega), rfl⟩
end Go.Proofs.Ytdbjjeaflfoppaa
