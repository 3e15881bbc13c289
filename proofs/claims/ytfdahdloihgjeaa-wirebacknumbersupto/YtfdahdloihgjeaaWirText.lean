/-
  Ours: the program's PutBool, PutText, PutInts, Bool, Text and Ints.
-/
import Derived.Test.YtfdahdloihgjeaaWirLists
import Derived.Laws.IdiomStrings
namespace Go.Proofs.Ytfdahdloihgjeaa
open Go.RowKit

def sB (s : ByteArray) : List Nat := s.data.toList.map UInt8.toNat
def textOf (ts : List Nat) : ByteArray := ⟨(ts.map UInt8.ofNat).toArray⟩
theorem textOf_sB (s : ByteArray) : textOf (sB s) = s := by
  apply ByteArray.ext
  simp [textOf, sB, List.map_map, Function.comp_def]
theorem sB_len (s : ByteArray) : (sB s).length = s.size := by rw [sB, List.length_map, Array.length_toList]; rfl
theorem sB_byte (s : ByteArray) : ∀ c ∈ sB s, c < 256 := fun c hc => by
  obtain ⟨b, _, rfl⟩ := List.mem_map.1 hc
  exact b.toNat_lt
theorem strCells_sB (s : ByteArray) : Lib.strCells s = (sB s).map bv := by
  simp [Lib.strCells, sB, bv, Function.comp_def]
theorem underS : Try.prog.underlying 9 = some .string := by kernel_rfl
theorem underU8 : Try.prog.underlying 5 = some (.int .u8) := by kernel_rfl

def putB (z : Bool) : List Nat := if z then [1] else [0]
def putT (ts : List Nat) : List Nat := put ts.length ++ ts

theorem newB_one (w : World) (c : Nat) : RowB 5 w.heap.size (w.alloc (.cells #[.int .u8 (c : Int)] 5)) (.slice (some ⟨w.heap.size, 0, none⟩) 1 1) [c] := by
  refine ⟨rfl, .inr ⟨w.heap.size, 1, _, rfl, Nat.le_refl _, MapKept.heap_alloc w _ |>.1, Nat.le_refl _, (by decide), rfl, rfl⟩⟩

theorem putBool_at (z : Bool) (w : World) : Calls Try.prog 30 #[.bool z] w (NewB w (putB z)) := by
  cases z
  · go_enter Try.func30, Try.ntmps30
    go_wp2_with fail
    go_ret
    exact ⟨_, rfl, newB_one w 0, below_alloc _ _⟩
  · go_enter Try.func30, Try.ntmps30
    go_wp2_with fail
    go_ret
    exact ⟨_, rfl, newB_one w 1, below_alloc _ _⟩

set_option maxRecDepth 20000 in
theorem putText_at (s : ByteArray) (w : World) (hl : s.size ≤ 140737488351232) : Calls Try.prog 31 #[.string s] w (NewB w (putT (sB s))) := by
  obtain ⟨i0, hi, hz0, hz1, hz2⟩ := info_parts infoB
  have U : Hid (Calls Try.prog 21 #[.int .u64 (s.size : Int)] w (NewB w (put s.size))) := putUint_at _ (by omega) w
  have lp := put_len10 s.size (by omega)
  go_enter Try.func31, Try.ntmps31
  go_wp2_with fail
  refine U.out.mono ?_
  rintro e w1 ⟨v1, rfl, r1, b1⟩
  have hsz := b1.size
  have l1 : ((put s.size).map bv).length + s.size ≤ maxLen := by rw [List.length_map]; unfold maxLen; omega
  have l2 : ((put s.size).map bv).length + s.size ≤ 140737488355328 := by rw [List.length_map]; omega
  go_wp2_with (at_builtin; refine Lib.wpList_append_own_string _ rfl (.tmp 6) (.tmp 7) 25 9 rfl w.heap.size 5 i0 underB underS hi hz0 hz1 hz2 _ _ _ rfl r1 s rfl l1 l2 hsz ?_; intro v' w2 hown' hgr _)
  go_ret
  refine ⟨_, rfl, ?_, below_grown b1 r1 (Nat.le_refl _) hsz hgr⟩
  rw [strCells_sB] at hown'
  simpa [RowB, RowV, putT, sB_len] using hown'

theorem putInts_at (xs : List Int) (v : Value) (w : World) (hx : I64s xs) (hl : xs.length ≤ 1000000000000) (h : RdI w v xs) : Calls Try.prog 32 #[v] w (NewB w (putL xs)) := by
  have U : Hid (Calls Try.prog 11 #[v, .func (.func 12) #[] #[]] w (NewB w (putL xs))) := putList_at xs v w hx hl h
  go_enter Try.func32, Try.ntmps32
  go_wp2_with fail
  refine U.out.mono ?_
  rintro e w1 ⟨v1, rfl, r1, b1⟩
  go_wp2_with fail
  go_ret
  exact ⟨_, rfl, r1, b1⟩

/-- A bool at a place. -/
def boolR (bs : List Nat) (p : Int) : Option (Bool × Nat) := if 0 ≤ p ∧ p < bs.length ∧ bs.getD p.toNat 0 ≤ 1 then some (decide (bs.getD p.toNat 0 = 1), p.toNat + 1) else none
def boolAns (r : Option (Bool × Nat)) : Ending := match r with
  | some (z, n) => .returned (.tuple #[.bool z, .int .i64 (n : Int), .bool true])
  | none => .returned (.tuple #[.bool false, .int .i64 0, .bool false])
theorem retB3 {a c : Bool} {b d : Int} {p q : Bool} (h : a = c) (h' : b = d) (hp : p = q) : Ending.returned (.tuple #[.bool a, .int .i64 b, .bool p]) = .returned (.tuple #[.bool c, .int .i64 d, .bool q]) := by rw [h, h', hp]

set_option maxRecDepth 20000 in
theorem bool_at (bs : List Nat) (p : Int) (v : Value) (w : World) (hb : ∀ c ∈ bs, c < 256) (hl : bs.length ≤ 140737488355328) (p0 : -9223372036854775808 ≤ p) (p1 : p ≤ 9223372036854775807) (h : RdB w v bs) :
    Calls Try.prog 33 #[v, .int .i64 p] w fun e w' => e = boolAns (boolR bs p) ∧ w' = w := by
  obtain ⟨L, hL⟩ : ∃ L, bs.length = L := ⟨_, rfl⟩
  obtain ⟨ao, cap, rfl, hcap, hn⟩ := h.len
  unfold boolR
  rw [List.length_map, hL] at hcap h ⊢
  rw [hL] at hl
  by_cases hp : p < 0
  · rw [if_neg (by omega)]
    go_enter Try.func33, Try.ntmps33
    go_wp2_with fail
    go_ret3
    exact ⟨rfl, rfl⟩
  · have d1 : decide (p < 0) = false := decide_eq_false hp
    by_cases hp2 : (L : Int) ≤ p
    · rw [if_neg (by omega)]
      go_enter Try.func33, Try.ntmps33
      go_wp2_with fail
      go_ret3
      exact ⟨rfl, rfl⟩
    · obtain ⟨k, rfl⟩ := Int.eq_ofNat_of_zero_le (show 0 ≤ p by omega)
      have d2 : decide ((L : Int) ≤ (k : Int)) = false := decide_eq_false (by omega)
      obtain ⟨g, o, rfl, lt, cc⟩ := RdB.at h (i := k) (by omega)
      have c256 : bs.getD k 0 < 256 := by rw [List.getD_eq_getElem?_getD, List.getElem?_eq_getElem (by omega)]; exact hb _ (List.getElem_mem _)
      rw [Int.toNat_natCast]
      generalize bs.getD k 0 = c at *
      clear h hb hL
      have a1 : (0 : Int) ≤ (k : Int) ∧ (k : Int) < (L : Int) := by omega
      by_cases c0 : c = 0
      · subst c0
        rw [if_pos ⟨a1.1, a1.2, by omega⟩]
        go_enter Try.func33, Try.ntmps33
        go_wp2_with fail
        go_ret3
        exact ⟨rfl, rfl⟩
      · by_cases c1 : c = 1
        · subst c1
          rw [if_pos ⟨a1.1, a1.2, by omega⟩]
          go_enter Try.func33, Try.ntmps33
          go_wp2_with fail
          go_ret3
          exact ⟨rfl, rfl⟩
        · rw [if_neg (by omega)]
          have d3 : decide ((1 : Int) < (c : Int)) = true := decide_eq_true (by omega)
          go_enter Try.func33, Try.ntmps33
          go_wp2_with fail
          go_ret3
          exact ⟨rfl, rfl⟩

/-- A text at a place. -/
def textR (bs : List Nat) (p : Int) : Option (List Nat × Nat) := match lenR bs p with
  | some (n, f) => some ((bs.drop f).take n, f + n)
  | none => none
def textAns (r : Option (List Nat × Nat)) : Ending := match r with
  | some (ts, n) => .returned (.tuple #[.string (textOf ts), .int .i64 (n : Int), .bool true])
  | none => .returned (.tuple #[.string ⟨#[]⟩, .int .i64 0, .bool false])

set_option maxRecDepth 20000 in
theorem text_at (bs : List Nat) (p : Int) (v : Value) (w : World) (hb : ∀ c ∈ bs, c < 256) (hl : bs.length ≤ 140737488355328) (p0 : -9223372036854775808 ≤ p) (p1 : p ≤ 9223372036854775807) (h : RdB w v bs) :
    Calls Try.prog 34 #[v, .int .i64 p] w fun e w' => e = textAns (textR bs p) ∧ w' = w := by
  have C : Hid (Calls Try.prog 45 #[v, .int .i64 p] w fun e w' => e = lenAns (lenR bs p) ∧ w' = w) := length_at bs p v w hb hl p0 p1 h
  obtain ⟨L, hL⟩ : ∃ L, bs.length = L := ⟨_, rfl⟩
  obtain ⟨ao, cap, rfl, hcap, hn⟩ := h.len
  unfold textR
  rw [List.length_map, hL] at hcap C h ⊢
  cases hr : lenR bs p with
  | none =>
    rw [hr] at C
    clear hr h
    go_enter Try.func34, Try.ntmps34
    go_wp2_with fail
    refine C.out.mono ?_
    rintro e w1 ⟨rfl, hw⟩; rw [hw]; clear hw w1
    simp only [lenAns]
    go_wp2_with fail
    go_ret3
    exact ⟨rfl, rfl⟩
  | some q =>
    obtain ⟨n, f⟩ := q
    obtain ⟨_, f0, f1, f2⟩ := lenR_le hb hr
    rw [hr] at C
    rw [hL] at f2 hl
    obtain ⟨g, o, rfl, lt⟩ := h.addr (by omega)
    have hlt : ((bs.drop f).take n).length = n := by simp; omega
    have CV : ∀ c a, (n = 0 ∨ a = ⟨g, o + f, none⟩) → (convert 25 9 (.slice (some a) n c)).run Try.prog w = .ok (.string (textOf ((bs.drop f).take n))) w := fun c a ha => by
      have := run_convert_bytes_back (P := Try.prog) w 25 9 5 a c (((bs.drop f).take n).map UInt8.ofNat) underB underU8 underS (fun j hj => by
        rw [List.length_map, hlt] at hj
        rcases ha with h0 | rfl
        · omega
        · obtain ⟨g', o', e1, _, e2⟩ := RdB.at h (i := f + j) (by omega)
          cases e1
          have hadd : (⟨g, o + f, none⟩ : Addr).add j = ⟨g, o + (f + j), none⟩ := by unfold Addr.add; split <;> simp_all [Nat.add_assoc]
          rw [hadd, e2]
          have lt1 : f + j < bs.length := by omega
          have b1 := hb _ (List.getElem_mem lt1)
          simp [List.getD_eq_getElem?_getD, List.getElem?_eq_getElem lt1]
          omega)
      rw [List.length_map, hlt] at this
      exact this
    clear hlt
    simp only
    generalize (bs.drop f).take n = ts at *
    have F : Hid (∀ S, S = textOf ts → ∀ m : Int, m = ((f + n : Nat) : Int) → Ending.returned (.tuple #[.string S, .int .i64 m, .bool true]) = textAns (some (ts, f + n))) := fun S h1 m h2 => by rw [h1, h2]; rfl
    clear hr h hL hb
    obtain ⟨S, hS⟩ : ∃ S, textOf ts = S := ⟨_, rfl⟩
    have HS : Hid (S = textOf ts) := hS.symm
    rw [hS] at CV
    clear hS
    by_cases hc : cap = f
    · subst hc
      obtain rfl : n = 0 := by omega
      have cv := CV 0 ⟨g, o, none⟩ (.inl rfl)
      clear CV
      go_enter Try.func34, Try.ntmps34
      go_wp2_with fail
      refine C.out.mono ?_
      rintro e w1 ⟨rfl, hw⟩; rw [hw]; clear hw w1
      simp only [lenAns]
      go_wp2_with fail
      go_ret3
      exact ⟨F.out S HS.out _ (by omega), rfl⟩
    · have cv := CV (cap - f) ⟨g, o + f, none⟩ (.inr rfl)
      have z2 : (cap - f == 0) = false := by rw [beq_eq_false_iff_ne]; omega
      clear CV
      go_enter Try.func34, Try.ntmps34
      go_wp2_with fail
      refine C.out.mono ?_
      rintro e w1 ⟨rfl, hw⟩; rw [hw]; clear hw w1
      simp only [lenAns]
      go_wp2_with fail
      go_ret3
      exact ⟨F.out S HS.out _ (by omega), rfl⟩

/-- The way to read a number as a way to read an element. -/
def intG (bs : List Nat) : Getter := fun q => (match rd bs q with | some (u, _) => unzz u | none => 0, match rd bs q with | some (_, n) => (n : Int) | none => 0, (rd bs q).isSome)
theorem intG_ans (bs : List Nat) (q : Int) : rdIAns (rd bs q) = .returned (.tuple #[.int .i64 (intG bs q).1, .int .i64 (intG bs q).2.1, .bool (intG bs q).2.2]) := by
  unfold intG rdIAns
  cases rd bs q with
  | none => rfl
  | some r => rfl
def intsR (bs : List Nat) (p : Int) : Option (List Int × Int) := listR (intG bs) bs p

theorem ints_at (bs : List Nat) (p : Int) (v : Value) (w : World) (hb : ∀ c ∈ bs, c < 256) (hl : bs.length ≤ 1000000000000) (p0 : -9223372036854775808 ≤ p) (p1 : p ≤ 9223372036854775807) (h : RdB w v bs) :
    Calls Try.prog 35 #[v, .int .i64 p] w (ListAns w (intsR bs p)) := by
  have U : Hid (Calls Try.prog 15 #[v, .int .i64 p, .func (.func 27) #[] #[]] w (ListAns w (intsR bs p))) :=
    listInt_at (intG bs) bs p v w hb hl p0 p1 h (fun w' q h1 h2 h3 => (int_at bs q v w' hb (by omega) (by omega) (by omega) h1).mono fun e w'' ⟨h4, h5⟩ => ⟨by rw [h4, intG_ans], by rw [h5]; exact Below.refl _ _⟩)
  clear h
  go_enter Try.func35, Try.ntmps35
  go_wp2_with fail
  refine U.out.mono ?_
  rintro e w1 ⟨v1, xs, q, k, rfl, r1, b1, D⟩
  have DD : Hid ((intsR bs p = none ∧ xs = [] ∧ q = 0 ∧ k = false) ∨ (intsR bs p = some (xs, q) ∧ k = true)) := D
  clear D
  go_wp2_with fail
  go_ret3
  exact ⟨_, xs, q, k, rfl, r1, b1, DD.out⟩
end Go.Proofs.Ytfdahdloihgjeaa
