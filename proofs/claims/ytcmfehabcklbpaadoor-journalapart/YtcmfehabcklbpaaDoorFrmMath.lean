/-
  Ours: the sum of bytes: the register bit by bit, linear over exclusive or; half a byte at once; bits turned within 32 in a row are seen.
-/
namespace Go.Proofs.YtcmfehabcklbpaaDoor.CrcM

def POLY : Nat := 0xEDB88320
def ones : Nat := 4294967295

/-- One step of the register, over any number of bits. -/
def bit1 (r : Nat) : Nat := (r / 2) ^^^ (if r % 2 = 1 then POLY else 0)
def bitN : Nat → Nat → Nat
  | 0, r => r
  | n + 1, r => bitN n (bit1 r)
def laid (r b : Nat) : Nat := bitN 8 (r ^^^ b)
def crc (r : Nat) (bs : List Nat) : Nat := bs.foldl laid r
def ext (s : Nat) (bs : List Nat) : Nat := ones - crc (ones - s) bs
def sum (bs : List Nat) : Nat := ext 0 bs

theorem bit1_xor (x y : Nat) : bit1 (x ^^^ y) = bit1 x ^^^ bit1 y := by
  unfold bit1
  rw [Nat.xor_div_two]
  have hm : (x ^^^ y) % 2 = (x % 2) ^^^ (y % 2) := by simpa using Nat.xor_mod_two_pow (n := 1) (a := x) (b := y)
  rw [hm]
  rcases Nat.mod_two_eq_zero_or_one x with h | h <;> rcases Nat.mod_two_eq_zero_or_one y with k | k <;> rw [h, k] <;> simp [Nat.xor_assoc]
  · rw [Nat.xor_comm POLY]
  · rw [Nat.xor_comm (y / 2) POLY, ← Nat.xor_assoc POLY POLY, Nat.xor_self, Nat.zero_xor]
theorem bitN_xor : ∀ (n x y : Nat), bitN n (x ^^^ y) = bitN n x ^^^ bitN n y
  | 0, _, _ => rfl
  | n + 1, x, y => by simp only [bitN]; rw [bit1_xor, bitN_xor n]
theorem bit1_dbl (y : Nat) : bit1 (2 * y) = y := by
  unfold bit1
  have : 2 * y % 2 = 0 := by omega
  rw [this]; simp
theorem bitN_pow : ∀ (n y : Nat), bitN n (2 ^ n * y) = y
  | 0, y => by simp [bitN]
  | n + 1, y => by
    simp only [bitN]
    rw [show 2 ^ (n + 1) * y = 2 * (2 ^ n * y) by rw [Nat.pow_succ, Nat.mul_comm (2 ^ n) 2, Nat.mul_assoc], bit1_dbl, bitN_pow n]
theorem bitN_add : ∀ (m n x : Nat), bitN (m + n) x = bitN n (bitN m x)
  | 0, n, x => by simp [bitN]
  | m + 1, n, x => by rw [show m + 1 + n = (m + n) + 1 by omega]; simp only [bitN]; exact bitN_add m n _
theorem bitN_zero : ∀ n, bitN n 0 = 0
  | 0 => rfl
  | n + 1 => by simp only [bitN]; rw [show bit1 0 = 0 from rfl, bitN_zero n]

theorem poly_lt : POLY < 2 ^ 32 := by decide
theorem bit1_lt {r : Nat} (h : r < 2 ^ 32) : bit1 r < 2 ^ 32 := by
  unfold bit1
  refine Nat.xor_lt_two_pow (by omega) ?_
  split
  · exact poly_lt
  · decide
theorem bitN_lt : ∀ (n : Nat) {r : Nat}, r < 2 ^ 32 → bitN n r < 2 ^ 32
  | 0, _, h => h
  | n + 1, _, h => bitN_lt n (bit1_lt h)
theorem bit1_ne {r : Nat} (h : r < 2 ^ 32) (h0 : r ≠ 0) : bit1 r ≠ 0 := by
  unfold bit1
  split
  · intro e
    have e2 : r / 2 = POLY := by
      have : (r / 2 ^^^ POLY) ^^^ POLY = 0 ^^^ POLY := by rw [e]
      rwa [Nat.xor_assoc, Nat.xor_self, Nat.xor_zero, Nat.zero_xor] at this
    have : POLY = 3988292384 := rfl
    omega
  · rw [Nat.xor_zero]; omega
theorem bitN_ne : ∀ (n : Nat) {r : Nat}, r < 2 ^ 32 → r ≠ 0 → bitN n r ≠ 0
  | 0, _, _, h0 => h0
  | n + 1, _, h, h0 => bitN_ne n (bit1_lt h) (bit1_ne h h0)

/-- Bytes as one number, the first the lowest. -/
def num : List Nat → Nat
  | [] => 0
  | b :: bs => b ^^^ (256 * num bs)
theorem crc_num : ∀ (bs : List Nat) (r : Nat), crc r bs = bitN (8 * bs.length) (r ^^^ num bs)
  | [], r => by simp [crc, bitN, num]
  | b :: bs, r => by
    rw [show crc r (b :: bs) = crc (laid r b) bs from rfl, crc_num bs, List.length_cons, show 8 * (bs.length + 1) = 8 + 8 * bs.length by omega, bitN_add]
    congr 1
    rw [num, ← Nat.xor_assoc, bitN_xor, show (256 : Nat) = 2 ^ 8 from rfl, bitN_pow]
    rfl
theorem crc_lt : ∀ (bs : List Nat) {r : Nat}, r < 2 ^ 32 → (∀ b ∈ bs, b < 256) → crc r bs < 2 ^ 32
  | [], _, h, _ => h
  | b :: bs, r, h, hb => crc_lt bs (bitN_lt 8 (Nat.xor_lt_two_pow h (by have := hb b (by simp); omega))) (fun x hx => hb x (by simp [hx]))
theorem crc_app (r : Nat) (xs ys : List Nat) : crc r (xs ++ ys) = crc (crc r xs) ys := by simp [crc, List.foldl_append]
theorem num_app : ∀ (xs ys : List Nat), num (xs ++ ys) = num xs ^^^ (2 ^ (8 * xs.length) * num ys)
  | [], ys => by simp [num]
  | x :: xs, ys => by
    rw [List.cons_append, num, num_app xs, num, Nat.xor_assoc]
    congr 1
    rw [List.length_cons, show 8 * (xs.length + 1) = 8 * xs.length + 8 by omega, Nat.pow_add]
    rw [show (256 : Nat) = 2 ^ 8 from rfl, Nat.mul_comm, ← Nat.shiftLeft_eq, Nat.shiftLeft_xor_distrib, Nat.shiftLeft_eq, Nat.shiftLeft_eq]
    rw [Nat.mul_comm (2 ^ 8) (num xs)]
    congr 1
    rw [Nat.mul_assoc, Nat.mul_comm (num ys), ← Nat.mul_assoc]

/-- Half a byte at once. -/
theorem half {r : Nat} : bitN 4 r = (r / 16) ^^^ bitN 4 (r % 16) := by
  have e : r = (16 * (r / 16)) ^^^ (r % 16) := by
    have h : r % 16 < 2 ^ 4 := by omega
    rw [Nat.xor_comm, Nat.mul_comm]
    apply Nat.eq_of_testBit_eq
    intro i
    rw [Nat.testBit_xor, show (16 : Nat) = 2 ^ 4 from rfl, Nat.testBit_mod_two_pow, Nat.testBit_mul_two_pow, Nat.testBit_div_two_pow]
    by_cases hi : i < 4
    · simp [hi, show ¬ 4 ≤ i by omega]
    · simp [hi, show 4 ≤ i by omega, show i - 4 + 4 = i by omega]
  conv => lhs; rw [e]
  rw [bitN_xor, show (16 : Nat) * (r / 16) = 2 ^ 4 * (r / 16) from rfl, bitN_pow]
theorem turn_ones {s : Nat} (h : s < 2 ^ 32) : ones ^^^ s = ones - s := by
  rw [show ones - s = 2 ^ 32 - (s + 1) by unfold ones; omega, show ones = 2 ^ 32 - 1 from rfl]
  apply Nat.eq_of_testBit_eq
  intro i
  rw [Nat.testBit_xor, Nat.testBit_two_pow_sub_succ h, Nat.testBit_two_pow_sub_one]
  by_cases hi : i < 32
  · simp [hi]
  · simp [hi, Nat.testBit_lt_two_pow (Nat.lt_of_lt_of_le h (Nat.pow_le_pow_right (by decide) (Nat.le_of_not_lt hi)))]
theorem num_lt : ∀ (bs : List Nat), (∀ b ∈ bs, b < 256) → num bs < 2 ^ (8 * bs.length)
  | [], _ => by simp [num]
  | b :: bs, h => by
    have h1 := num_lt bs (fun x hx => h x (by simp [hx]))
    have h2 := h b (by simp)
    rw [num, List.length_cons, show 8 * (bs.length + 1) = 8 * bs.length + 8 by omega]
    refine Nat.xor_lt_two_pow (Nat.lt_of_lt_of_le h2 ?_) ?_
    · exact Nat.le_trans (by decide : 256 ≤ 2 ^ 8) (Nat.pow_le_pow_right (by decide) (by omega))
    · rw [Nat.pow_add]; omega
/-- One bit of the bytes turned. -/
theorem num_set : ∀ (bs : List Nat) (i b : Nat), i < bs.length → num (bs.set i (bs.getD i 0 ^^^ b)) = num bs ^^^ (2 ^ (8 * i) * b)
  | [], _, _, h => by simp at h
  | x :: xs, 0, b, _ => by simp [num]; rw [Nat.xor_assoc, Nat.xor_comm b, ← Nat.xor_assoc]
  | x :: xs, i + 1, b, h => by
    have := num_set xs i b (by simpa using h)
    simp only [List.set_cons_succ, num]
    have e : (x :: xs).getD (i + 1) 0 = xs.getD i 0 := by simp
    rw [e, this, Nat.xor_assoc]
    congr 1
    rw [show 8 * (i + 1) = 8 * i + 8 by omega, Nat.pow_add]
    rw [show (256 : Nat) = 2 ^ 8 from rfl, Nat.mul_comm, ← Nat.shiftLeft_eq, Nat.shiftLeft_xor_distrib, Nat.shiftLeft_eq, Nat.shiftLeft_eq]
    rw [Nat.mul_comm (2 ^ 8) (num xs)]
    congr 1
    rw [Nat.mul_assoc, Nat.mul_comm b, ← Nat.mul_assoc]
theorem num_div {s : Nat} (i : Nat) : 2 ^ (8 * (i / 8)) * 2 ^ (i % 8) * s = 2 ^ i * s := by
  rw [← Nat.pow_add, show 8 * (i / 8) + i % 8 = i by omega]

/-- A number as four bytes, the lowest first. -/
def four (n : Nat) : List Nat := [n % 256, n / 256 % 256, n / 65536 % 256, n / 16777216 % 256]
theorem four_lt (n : Nat) : ∀ b ∈ four n, b < 256 := by
  intro b hb
  simp [four] at hb
  omega
theorem four_len (n : Nat) : (four n).length = 4 := rfl
theorem xor_add {b x : Nat} (h : b < 256) : b ^^^ (256 * x) = b + 256 * x := by
  have := Nat.two_pow_add_eq_or_of_lt (i := 8) (b := b) h x
  rw [Nat.add_comm b, show (256 : Nat) = 2 ^ 8 from rfl, this]
  apply Nat.eq_of_testBit_eq
  intro i
  rw [Nat.testBit_xor, Nat.testBit_or]
  rw [Nat.testBit_two_pow_mul]
  by_cases hi : 8 ≤ i
  · rw [Nat.testBit_lt_two_pow (Nat.lt_of_lt_of_le h (Nat.pow_le_pow_right (n := 2) (by decide) hi))]; simp
  · simp [hi]
theorem num_cons {b : Nat} {bs : List Nat} (h : b < 256) : num (b :: bs) = b + 256 * num bs := by rw [num, xor_add h]
theorem num_four {n : Nat} (h : n < 4294967296) : num (four n) = n := by
  unfold four
  rw [num_cons (by omega), num_cons (by omega), num_cons (by omega), num_cons (by omega)]
  simp [num]
  omega
theorem four_num {a b c d : Nat} (ha : a < 256) (hb : b < 256) (hc : c < 256) (hd : d < 256) : four (num [a, b, c, d]) = [a, b, c, d] := by
  rw [num_cons ha, num_cons hb, num_cons hc, num_cons hd]
  simp [num, four]
  omega

/-- The register behind bytes and four bytes more. -/
theorem crc_four {r : Nat} (xs : List Nat) {s : Nat} (hs : s < 4294967296) : crc r (xs ++ four s) = bitN 32 (crc r xs ^^^ s) := by
  rw [crc_app, crc_num (four s), num_four hs]
  rfl
theorem sum_lt {bs : List Nat} : sum bs < 4294967296 := by unfold sum ext ones; omega
theorem ext_lt {s : Nat} {bs : List Nat} : ext s bs < 4294967296 := by unfold ext ones; omega

/-- Bytes with their sum behind them: the register is always the same. -/
theorem crc_good {xs : List Nat} (hx : ∀ b ∈ xs, b < 256) : crc ones (xs ++ four (sum xs)) = bitN 32 ones := by
  rw [crc_four _ sum_lt]
  have hl : crc ones xs < 2 ^ 32 := crc_lt xs (by decide) hx
  congr 1
  unfold sum ext
  rw [Nat.sub_zero, ← turn_ones hl, Nat.xor_comm ones, ← Nat.xor_assoc, Nat.xor_self, Nat.zero_xor]

/-- 6.9: bits turned within 32 in a row, in bytes and their sum: the sum is another one. -/
theorem burst {xs ys : List Nat} {s t f m : Nat} (hx : ∀ b ∈ xs, b < 256) (hy : ∀ b ∈ ys, b < 256) (hl : ys.length = xs.length) (hs : s < 4294967296) (ht : t < 4294967296) (hgood : s = sum xs)
    (hf : f ≤ 8 * (xs.length + 4)) (hm : m < 2 ^ 32) (h0 : m ≠ 0) (hd : num (ys ++ four t) = num (xs ++ four s) ^^^ (2 ^ f * m)) : t ≠ sum ys := by
  intro e
  subst hgood e
  have h1 := crc_good hx
  have h2 := crc_good hy
  rw [crc_num] at h1 h2
  have ll : (ys ++ four (sum ys)).length = xs.length + 4 := by simp [hl, four_len]
  have ll2 : (xs ++ four (sum xs)).length = xs.length + 4 := by simp [four_len]
  rw [hd, ll, ← Nat.xor_assoc, bitN_xor, ← ll2, h1] at h2
  have h3 : bitN (8 * (xs ++ four (sum xs)).length) (2 ^ f * m) = 0 := by
    have : bitN 32 ones ^^^ (bitN 32 ones ^^^ bitN (8 * (xs ++ four (sum xs)).length) (2 ^ f * m)) = bitN 32 ones ^^^ bitN 32 ones := by rw [h2]
    rwa [← Nat.xor_assoc, Nat.xor_self, Nat.zero_xor] at this
  rw [ll2, show 8 * (xs.length + 4) = f + (8 * (xs.length + 4) - f) by omega, bitN_add, bitN_pow] at h3
  exact bitN_ne _ hm h0 h3

/-- What stands at the front of these bytes: the frame's size, or 0 and the tail. -/
def whole (l : List Nat) : Nat × Nat :=
  if l.length = 0 then (0, 0) else if l.length < 4 then (0, 1) else if 4194304 < num (l.take 4) then (0, 2) else if l.length < num (l.take 4) + 8 then (0, 1)
  else if num ((l.drop (num (l.take 4) + 4)).take 4) = sum (l.take (num (l.take 4) + 4)) then (num (l.take 4) + 8, 0) else (0, 3)
def pay (l : List Nat) : List Nat := (l.drop 4).take (num (l.take 4))
def enc (p : List Nat) : List Nat := four p.length ++ p ++ four (sum (four p.length ++ p))
def join (ps : List (List Nat)) : List Nat := ps.flatMap enc
theorem enc_len (p : List Nat) : (enc p).length = p.length + 8 := by simp [enc, four_len]; omega
theorem enc_lt {p : List Nat} (h : ∀ b ∈ p, b < 256) : ∀ b ∈ enc p, b < 256 := by
  intro b hb
  simp only [enc, List.mem_append] at hb
  rcases hb with (hb | hb) | hb
  · exact four_lt _ b hb
  · exact h b hb
  · exact four_lt _ b hb

theorem whole_pos {l : List Nat} (h : (whole l).1 ≠ 0) : 4 ≤ l.length ∧ num (l.take 4) ≤ 4194304 ∧ (whole l).1 = num (l.take 4) + 8 ∧ num (l.take 4) + 8 ≤ l.length ∧ (whole l).2 = 0 ∧ num ((l.drop (num (l.take 4) + 4)).take 4) = sum (l.take (num (l.take 4) + 4)) := by
  unfold whole at h ⊢
  split at h
  · exact absurd rfl h
  split at h
  · exact absurd rfl h
  split at h
  · exact absurd rfl h
  split at h
  · exact absurd rfl h
  split at h
  · rename_i h1 h2 h3 h4 h5
    rw [if_neg h1, if_neg h2, if_neg h3, if_neg h4, if_pos h5]
    exact ⟨by omega, by omega, rfl, by omega, rfl, h5⟩
  · exact absurd rfl h
theorem whole_of {l : List Nat} (h1 : 4 ≤ l.length) (h2 : num (l.take 4) ≤ 4194304) (h3 : num (l.take 4) + 8 ≤ l.length) (h4 : num ((l.drop (num (l.take 4) + 4)).take 4) = sum (l.take (num (l.take 4) + 4))) : whole l = (num (l.take 4) + 8, 0) := by
  unfold whole
  rw [if_neg (by omega), if_neg (by omega), if_neg (by omega), if_neg (by omega), if_pos h4]
theorem pay_len {l : List Nat} (h : (whole l).1 ≠ 0) : (pay l).length + 8 = (whole l).1 := by
  obtain ⟨h1, h2, h3, h4, _⟩ := whole_pos h
  simp [pay, h3]; omega

/-- A frame is told by its own bytes alone. -/
theorem whole_more {l m : List Nat} (h : (whole l).1 ≠ 0) (e : l.take (whole l).1 = m.take (whole l).1) : whole m = whole l ∧ pay m = pay l := by
  obtain ⟨h1, h2, h3, h4, h5, h6⟩ := whole_pos h
  rw [h3] at e
  generalize hn : num (l.take 4) = n at *
  have hm : n + 8 ≤ m.length := by
    have := congrArg List.length e
    simp only [List.length_take] at this
    omega
  have e4 : m.take 4 = l.take 4 := by
    have := congrArg (List.take 4) e
    rw [List.take_take, List.take_take, show min 4 (n + 8) = 4 by omega] at this
    exact this.symm
  have en : m.take (n + 4) = l.take (n + 4) := by
    have := congrArg (List.take (n + 4)) e
    rw [List.take_take, List.take_take, show min (n + 4) (n + 8) = n + 4 by omega] at this
    exact this.symm
  have es : (m.drop (n + 4)).take 4 = (l.drop (n + 4)).take 4 := by
    have := congrArg (List.drop (n + 4)) e
    rw [List.drop_take, List.drop_take, show n + 8 - (n + 4) = 4 by omega] at this
    exact this.symm
  have ep : (m.drop 4).take n = (l.drop 4).take n := by
    have := congrArg (List.drop 4) en
    rw [List.drop_take, List.drop_take, show n + 4 - 4 = n by omega] at this
    exact this
  have hnm : num (m.take 4) = n := by rw [e4, hn]
  refine ⟨?_, ?_⟩
  · rw [whole_of (by omega) (by rw [hnm]; exact h2) (by rw [hnm]; exact hm) (by rw [hnm, es, en]; exact h6), hnm]
    exact Prod.ext h3.symm h5.symm
  · unfold pay; rw [hnm, hn, ep]

theorem take4 (a b : List Nat) (h : a.length = 4) : (a ++ b).take 4 = a := by rw [List.take_append_of_le_length (by omega), List.take_of_length_le (by omega)]
theorem drop4 (a b : List Nat) (n : Nat) (h : a.length = n) : (a ++ b).drop n = b := by rw [← h]; simp
theorem whole_enc {p : List Nat} (h : p.length ≤ 4194304) (m : List Nat) : whole (enc p ++ m) = (p.length + 8, 0) ∧ pay (enc p ++ m) = p := by
  have e1 : (enc p ++ m).take 4 = four p.length := by
    unfold enc
    rw [List.append_assoc, List.append_assoc]
    exact take4 _ _ rfl
  have hn : num ((enc p ++ m).take 4) = p.length := by rw [e1, num_four (by omega)]
  have e2 : (enc p ++ m).drop (p.length + 4) = four (sum (four p.length ++ p)) ++ m := by
    unfold enc
    rw [List.append_assoc]
    exact drop4 _ _ _ (by simp [four_len]; omega)
  have e3 : (enc p ++ m).take (p.length + 4) = four p.length ++ p := by
    unfold enc
    rw [List.append_assoc, List.take_append_of_le_length (by simp [four_len]; omega), List.take_of_length_le (by simp [four_len]; omega)]
  have hl := enc_len p
  refine ⟨?_, ?_⟩
  · rw [whole_of (by simp [hl]; omega) (by rw [hn]; exact h) (by rw [hn]; simp [hl]) (by rw [hn, e2, e3, take4 _ _ rfl, num_four sum_lt]), hn]
  · unfold pay
    rw [hn]
    have : (enc p ++ m).drop 4 = p ++ (four (sum (four p.length ++ p)) ++ m) := by
      unfold enc
      rw [List.append_assoc, List.append_assoc]
      exact drop4 _ _ _ rfl
    rw [this, List.take_append_of_le_length (by omega), List.take_of_length_le (by omega)]
/-- A part of a frame is none. -/
theorem whole_part {p : List Nat} (h : p.length ≤ 4194304) {c : Nat} (h0 : 0 < c) (hc : c < p.length + 8) : whole ((enc p).take c) = (0, 1) := by
  have hl : ((enc p).take c).length = c := by rw [List.length_take, enc_len]; omega
  unfold whole
  rw [hl, if_neg (by omega)]
  by_cases h4 : c < 4
  · rw [if_pos h4]
  · rw [if_neg h4]
    have e1 : ((enc p).take c).take 4 = four p.length := by
      rw [List.take_take, show min 4 c = 4 by omega]
      unfold enc
      rw [List.append_assoc]
      exact take4 _ _ rfl
    rw [e1, num_four (by omega), if_neg (by omega), if_pos hc]

/-- Scan. -/
def scan (l : List Nat) : List (List Nat) × Nat × Nat :=
  if _h : (whole l).1 = 0 then ([], 0, (whole l).2) else
    let r := scan (l.drop (whole l).1)
    (pay l :: r.1, (whole l).1 + r.2.1, r.2.2)
termination_by l.length
decreasing_by
  obtain ⟨_h1, _⟩ := whole_pos _h
  simp only [List.length_drop]
  omega
theorem scan_none {l : List Nat} (h : (whole l).1 = 0) : scan l = ([], 0, (whole l).2) := by rw [scan, dif_pos h]
theorem scan_some {l : List Nat} (h : (whole l).1 ≠ 0) : scan l = (pay l :: (scan (l.drop (whole l).1)).1, (whole l).1 + (scan (l.drop (whole l).1)).2.1, (scan (l.drop (whole l).1)).2.2) := by rw [scan, dif_neg h]

theorem scan_end : ∀ (n : Nat) (l : List Nat), l.length ≤ n → (scan l).2.1 ≤ l.length ∧ (scan l).2.2 = (whole (l.drop (scan l).2.1)).2 ∧ (whole (l.drop (scan l).2.1)).1 = 0
  | n, l, hn => by
    by_cases h : (whole l).1 = 0
    · rw [scan_none h]; simp [h]
    · obtain ⟨h1, _, h3, h4, _⟩ := whole_pos h
      match n with
      | 0 => omega
      | n + 1 =>
        obtain ⟨k1, k2, k3⟩ := scan_end n (l.drop (whole l).1) (by simp; omega)
        rw [scan_some h]
        simp only
        rw [List.length_drop] at k1
        rw [← List.drop_drop]
        exact ⟨by omega, k2, k3⟩

theorem scan_join (ps : List (List Nat)) (h : ∀ p ∈ ps, p.length ≤ 4194304) (m : List Nat) : scan (join ps ++ m) = (ps ++ (scan m).1, (join ps).length + (scan m).2.1, (scan m).2.2) := by
  induction ps with
  | nil => simp [join]
  | cons p ps ih =>
    obtain ⟨w1, w2⟩ := whole_enc (h p (by simp)) (join ps ++ m)
    have e : join (p :: ps) ++ m = enc p ++ (join ps ++ m) := by simp [join]
    rw [e, scan_some (by rw [w1]; simp), w1, w2]
    simp only
    rw [drop4 _ _ _ (enc_len p), ih (fun q hq => h q (by simp [hq]))]
    simp only [List.cons_append]
    rw [show (join (p :: ps)).length = p.length + 8 + (join ps).length by simp [join, enc_len]]
    simp only [Nat.add_assoc]

/-- The frames that lie wholly ahead of the cut. -/
def aheadN : List (List Nat) → Nat → Nat
  | [], _ => 0
  | p :: ps, c => if p.length + 8 ≤ c then aheadN ps (c - (p.length + 8)) + 1 else 0
def sizeL (ps : List (List Nat)) : Nat := (join ps).length
theorem sizeL_cons (p : List Nat) (ps : List (List Nat)) : sizeL (p :: ps) = p.length + 8 + sizeL ps := by simp [sizeL, join, enc_len]
theorem sizeL_nil : sizeL [] = 0 := rfl
theorem scan_torn : ∀ (ps : List (List Nat)), (∀ p ∈ ps, p.length ≤ 4194304) → ∀ c, c ≤ (join ps).length →
    scan ((join ps).take c) = (ps.take (aheadN ps c), sizeL (ps.take (aheadN ps c)), if sizeL (ps.take (aheadN ps c)) = c then 0 else 1)
  | [], _, c, hc => by
    have : c = 0 := by simpa [join] using hc
    subst this
    simp [join, aheadN, sizeL]
    rw [scan_none (by simp [whole])]
    simp [whole]
  | p :: ps, h, c, hc => by
    have hp := h p (by simp)
    have e : join (p :: ps) = enc p ++ join ps := by simp [join]
    have le := enc_len p
    rw [e] at hc ⊢
    rw [List.length_append, le] at hc
    by_cases hcc : p.length + 8 ≤ c
    · have e2 : (enc p ++ join ps).take c = enc p ++ (join ps).take (c - (p.length + 8)) := by
        rw [List.take_append, le, List.take_of_length_le (by omega)]
      obtain ⟨w1, w2⟩ := whole_enc hp ((join ps).take (c - (p.length + 8)))
      rw [e2, scan_some (by rw [w1]; simp), w1, w2]
      simp only
      rw [drop4 _ _ _ le, scan_torn ps (fun q hq => h q (by simp [hq])) (c - (p.length + 8)) (by omega)]
      simp only [aheadN, if_pos hcc, List.take_succ_cons]
      rw [sizeL_cons]
      refine Prod.ext rfl (Prod.ext rfl ?_)
      simp only
      by_cases hh : sizeL (ps.take (aheadN ps (c - (p.length + 8)))) = c - (p.length + 8)
      · rw [if_pos hh, if_pos (by omega)]
      · rw [if_neg hh, if_neg (by omega)]
    · have e2 : (enc p ++ join ps).take c = (enc p).take c := by rw [List.take_append_of_le_length (by omega)]
      rw [e2]
      simp only [aheadN, if_neg hcc, List.take_zero, sizeL_nil]
      by_cases h0 : c = 0
      · subst h0
        rw [List.take_zero, scan_none (by simp [whole])]
        simp [whole]
      · rw [scan_none (by rw [whole_part hp (by omega) (by omega)]), whole_part hp (by omega) (by omega), if_neg (by omega)]

theorem scan_again : ∀ (n : Nat) (l : List Nat), l.length ≤ n → scan (l.take (scan l).2.1) = ((scan l).1, (scan l).2.1, 0)
  | n, l, hn => by
    by_cases h : (whole l).1 = 0
    · rw [scan_none h]
      simp only [List.take_zero]
      rw [scan_none (by simp [whole])]
      simp [whole]
    · obtain ⟨h1, _, h3, h4, _⟩ := whole_pos h
      match n with
      | 0 => omega
      | n + 1 =>
        have ih := scan_again n (l.drop (whole l).1) (by simp; omega)
        rw [scan_some h]
        simp only
        generalize hs : (scan (l.drop (whole l).1)).2.1 = s at *
        obtain ⟨w1, w2⟩ := whole_more (m := l.take ((whole l).1 + s)) h (by rw [List.take_take, show min (whole l).1 ((whole l).1 + s) = (whole l).1 by omega])
        rw [scan_some (by rw [w1]; exact h), w1, w2, List.drop_take, show (whole l).1 + s - (whole l).1 = s by omega, ih]

theorem num_take {l : List Nat} (h : ∀ b ∈ l, b < 256) {k : Nat} (hk : k ≤ l.length) : num (l.take k) = num l % 2 ^ (8 * k) := by
  have e : num l = num (l.take k ++ l.drop k) := by rw [List.take_append_drop]
  have ll : (l.take k).length = k := by rw [List.length_take]; omega
  have lt := num_lt (l.take k) (fun b hb => h b (List.mem_of_mem_take hb))
  rw [ll] at lt
  rw [e, num_app, ll, Nat.xor_mod_two_pow, Nat.mod_eq_of_lt lt, Nat.mul_mod_right, Nat.xor_zero]
theorem whole_spoilt {p m l : List Nat} {f x : Nat} (hp : p.length ≤ 4194304) (hb : ∀ b ∈ p, b < 256) (hm : ∀ b ∈ m, b < 256) (hl : l.length = (enc p ++ m).length) (hlb : ∀ b ∈ l, b < 256)
    (h32 : 32 ≤ f) (hx : x < 2 ^ 32) (h0 : x ≠ 0) (hin : 2 ^ f * x < 2 ^ (8 * (p.length + 8))) (hd : num l = num (enc p ++ m) ^^^ (2 ^ f * x)) : whole l = (0, 3) := by
  have hL : (enc p ++ m).length = p.length + 8 + m.length := by simp [enc_len]
  have hbo : ∀ b ∈ enc p ++ m, b < 256 := fun b hb' => by
    rcases List.mem_append.1 hb' with h | h
    · exact enc_lt hb b h
    · exact hm b h
  have e1 : (enc p ++ m).take 4 = four p.length := by
    unfold enc
    rw [List.append_assoc, List.append_assoc]
    exact take4 _ _ rfl
  have hn : num (l.take 4) = p.length := by
    rw [num_take hlb (by omega), hd, Nat.xor_mod_two_pow, ← num_take hbo (by omega), e1, num_four (by omega)]
    obtain ⟨k, rfl⟩ : ∃ k, f = 8 * 4 + k := ⟨f - 32, by omega⟩
    rw [Nat.pow_add, Nat.mul_assoc, Nat.mul_mod_right, Nat.xor_zero]
  have e8 : (enc p ++ m).take (p.length + 8) = enc p := by rw [List.take_append_of_le_length (by rw [enc_len]; omega), List.take_of_length_le (by rw [enc_len]; omega)]
  have hN : num (l.take (p.length + 8)) = num (enc p) ^^^ (2 ^ f * x) := by
    rw [num_take hlb (by omega), hd, Nat.xor_mod_two_pow, ← num_take hbo (by omega), e8, Nat.mod_eq_of_lt hin]
  have l4 : ((l.drop (p.length + 4)).take 4).length = 4 := by simp; omega
  have hsp : l.take (p.length + 8) = l.take (p.length + 4) ++ (l.drop (p.length + 4)).take 4 := by
    rw [show p.length + 8 = (p.length + 4) + 4 by omega, List.take_add]
  have h4 : ∀ b ∈ (l.drop (p.length + 4)).take 4, b < 256 := fun b hb' => hlb b (List.mem_of_mem_drop (List.mem_of_mem_take hb'))
  have hf4 : four (num ((l.drop (p.length + 4)).take 4)) = (l.drop (p.length + 4)).take 4 := by
    match hq : (l.drop (p.length + 4)).take 4, l4, h4 with
    | [a, b, c, d], _, h4 => exact four_num (h4 a (by simp)) (h4 b (by simp)) (h4 c (by simp)) (h4 d (by simp))
  have ht : num ((l.drop (p.length + 4)).take 4) < 4294967296 := by
    have := num_lt _ h4
    rw [l4] at this
    exact this
  have hxb : ∀ b ∈ four p.length ++ p, b < 256 := fun b hb' => by
    rcases List.mem_append.1 hb' with h | h
    · exact four_lt _ b h
    · exact hb b h
  have hf : f ≤ 8 * ((four p.length ++ p).length + 4) := by
    have h1 : 2 ^ f ≤ 2 ^ f * x := Nat.le_mul_of_pos_right _ (by omega)
    have h2 : 2 ^ f < 2 ^ (8 * (p.length + 8)) := Nat.lt_of_le_of_lt h1 hin
    have h3 := (Nat.pow_lt_pow_iff_right (by decide : 1 < 2)).1 h2
    simp [four_len]; omega
  have hne := burst (xs := four p.length ++ p) (ys := l.take (p.length + 4)) (s := sum (four p.length ++ p)) (t := num ((l.drop (p.length + 4)).take 4)) (f := f) (m := x)
    hxb (fun b hb' => hlb b (List.mem_of_mem_take hb')) (by simp [four_len]; omega) sum_lt ht rfl hf hx h0 (by rw [hf4, ← hsp, hN]; rfl)
  unfold whole
  rw [hn, if_neg (by omega), if_neg (by omega), if_neg (by omega), if_neg (by omega), if_neg hne]
theorem bitN_next (k y : Nat) : bitN (k + 1) y = bit1 (bitN k y) := by rw [bitN_add]; rfl
theorem laid_eq (r x : Nat) : laid r x = bitN 4 (bitN 4 (r ^^^ x)) := bitN_add 4 4 _
theorem sum_eq (bs : List Nat) : sum bs = ext 0 bs := rfl
theorem ext_eq (s : Nat) (bs : List Nat) : ext s bs = ones - crc (ones - s) bs := rfl
theorem crc_nil (r : Nat) : crc r [] = r := rfl
theorem crc_one (r x : Nat) : crc r [x] = laid r x := rfl
/-- The table of half a byte's words. -/
def tabL : List Int := [0, 498536548, 997073096, 651767980, 1994146192, 1802195444, 1303535960, 1342533948, 3988292384, 4027552580, 3604390888, 3412177804, 2607071920, 2262029012, 2685067896, 3183342108]
theorem tabL_is : ∀ m, m < 16 → tabL[m]? = some ((bitN 4 m : Nat) : Int) := by decide
attribute [irreducible] bitN laid crc ext sum num whole pay enc join ones
end Go.Proofs.YtcmfehabcklbpaaDoor.CrcM
