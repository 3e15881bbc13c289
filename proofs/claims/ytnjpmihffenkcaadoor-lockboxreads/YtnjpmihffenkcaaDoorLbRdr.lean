/-
  Ours: lockbox.readDigits, begins; slices of bytes.
-/
import Derived.Test.YtnjpmihffenkcaaDoorLbTll
import Derived.Test.YtnjpmihffenkcaaDoorLbOwn
import Derived.Lib.ConvBytes
namespace Go.Proofs.YtnjpmihffenkcaaDoor
open Go.RowKit LbM LbF
set_option maxRecDepth 40000 in
theorem slice_from (a : Option Addr) (p n c : Nat) (h1 : p ≤ n) (h3 : n ≤ c) (hn : a = none → c = 0) : ∃ AD : Option Addr, ((AD = none → c - p = 0) ∧ ∀ g o, p < c → a = some ⟨g, o, none⟩ → AD = some ⟨g, o + p, none⟩) ∧ ∀ W, (Instr.slice 26 (.slice a n c) (some (.int .i64 (p : Int))) none none).run Tryd.prog W = .ok (.slice AD (n - p) (c - p)) W ∧ (Instr.sliceAt 26 (.slice a n c) (some (.int .i64 (p : Int))) none none).run Tryd.prog W = .ok (.slice AD (n - p) (c - p)) W := by
  cases a with
  | none =>
    obtain rfl := hn rfl
    obtain rfl : n = 0 := by omega
    obtain rfl : p = 0 := by omega
    refine ⟨none, ⟨fun _ => rfl, fun g o h => by omega⟩, fun W => ⟨?_, ?_⟩⟩
    · go_simp
    · go_simp
  | some ad =>
    refine ⟨if c = p then some ad else some (ad.add p), ⟨?_, fun g' o' h e => ?_⟩, fun W => ⟨?_, ?_⟩⟩
    · intro h
      split at h
      · cases h
      · cases h
    · injection e with e; subst e; rw [if_neg (by omega)]; simp [Addr.add]
    · go_simp
      first | done | (intro h; omega)
    · go_simp
      first | done | (intro h; omega)
set_option maxRecDepth 40000 in
theorem slice_to (a : Option Addr) (q n c : Nat) (h2 : q ≤ n) (h3 : n ≤ c) (hn : a = none → c = 0) : ∀ W, (Instr.slice 26 (.slice a n c) none (some (.int .i64 (q : Int))) none).run Tryd.prog W = .ok (.slice a q c) W ∧ (Instr.sliceAt 26 (.slice a n c) none (some (.int .i64 (q : Int))) none).run Tryd.prog W = .ok (.slice a q c) W := by
  cases a with
  | none =>
    obtain rfl := hn rfl
    obtain rfl : n = 0 := by omega
    obtain rfl : q = 0 := by omega
    intro W
    constructor
    · go_simp
    · go_simp
  | some ad =>
    intro W
    constructor
    · go_simp
      first | done | (intro h; omega)
    · go_simp
      first | done | (intro h; omega)
theorem rdB_from {w : World} {a AD : Option Addr} {n c p : Nat} {l : List Nat} (h : RdB w (.slice a n c) l) (h1 : p ≤ n) (hA : (AD = none → c - p = 0) ∧ ∀ g o, p < c → a = some ⟨g, o, none⟩ → AD = some ⟨g, o + p, none⟩) : RdB w (.slice AD (n - p) (c - p)) (l.drop p) := by
  obtain ⟨ao, cap, e, hcap, hnil, H⟩ := h
  injection e with e1 e2 e3
  subst e1 e3
  rw [List.length_map] at e2 hcap
  have hl : ((l.drop p).map bv).length = n - p := by rw [List.length_map, List.length_drop]; omega
  refine ⟨AD, c - p, by rw [hl], by rw [hl]; omega, hA.1, fun i hi => ?_⟩
  rw [hl] at hi
  obtain ⟨g, o, e1, lt, e4⟩ := H (p + i) (by rw [List.length_map]; omega)
  refine ⟨g, o + p, hA.2 g o (by omega) e1, lt, ?_⟩
  rw [Nat.add_assoc, e4]
  simp
theorem rdB_to {w : World} {a : Option Addr} {n c q : Nat} {l : List Nat} (h : RdB w (.slice a n c) l) (h1 : q ≤ n) : RdB w (.slice a q c) (l.take q) := by
  obtain ⟨ao, cap, e, hcap, hnil, H⟩ := h
  injection e with e1 e2 e3
  subst e1 e3
  rw [List.length_map] at e2 hcap
  have hl : ((l.take q).map bv).length = q := by rw [List.length_map, List.length_take]; omega
  refine ⟨a, c, by rw [hl], by rw [hl]; omega, hnil, fun i hi => ?_⟩
  rw [hl] at hi
  obtain ⟨g, o, e1, lt, e4⟩ := H i (by rw [List.length_map]; omega)
  refine ⟨g, o, e1, lt, ?_⟩
  rw [e4]
  simp
theorem rdB_cap {w : World} {a : Option Addr} {n c : Nat} {l : List Nat} (h : RdB w (.slice a n c) l) : n = l.length ∧ n ≤ c ∧ (a = none → c = 0) := by
  obtain ⟨ao, cap, e, hcap, hnil, H⟩ := h
  injection e with e1 e2 e3
  subst e1 e3
  rw [List.length_map] at e2 hcap
  exact ⟨e2, by omega, hnil⟩
theorem numD_take {bs : List Nat} {k : Nat} (hk : k < bs.length) : numD (bs.take (k + 1)) = 10 * numD (bs.take k) + (bs.getD k 0 - 48) := by
  rw [List.take_add_one, List.getElem?_eq_getElem hk]
  show numA 0 (_ ++ [bs[k]]) = _
  rw [numA_snoc, List.getD_eq_getElem?_getD, List.getElem?_eq_getElem hk]
  rfl
set_option maxRecDepth 20000 in
set_option maxHeartbeats 4000000 in
theorem readDigits_at (bs : List Nat) (v : Value) (w : World) (hl : bs.length ≤ 16) (h : RdB w v bs) (h8 : ∀ c ∈ bs, c < 256) :
    Calls Tryd.prog 74 #[v] w fun e w' => e = .returned (.tuple #[.int .i64 ((if (∀ c ∈ bs, isDg c) then numD bs else 0 : Nat) : Int), .bool (decide (∀ c ∈ bs, isDg c))]) ∧ w = w' := by
  obtain ⟨ao, cap, e, hcap, hnil, H⟩ := h
  have GI : Hid (∀ i, i < bs.length → ∃ g o, ao = some ⟨g, o, none⟩ ∧ w.cell? ⟨g, o + i, none⟩ = some (.int .u8 ((bs.getD i 0 : Nat) : Int)) ∧ bs.getD i 0 ∈ bs) := fun i hi => by
    obtain ⟨g, o, e1, _, c0⟩ := H i (by rw [List.length_map]; exact hi)
    have e4 : bs.getD i 0 = bs[i] := by rw [List.getD_eq_getElem?_getD, List.getElem?_eq_getElem hi]; rfl
    exact ⟨g, o, e1, by rw [c0, e4, List.getElem_map]; rfl, by rw [e4]; exact List.getElem_mem hi⟩
  have NT : Hid (∀ i, i < bs.length → numD (bs.take (i + 1)) = 10 * numD (bs.take i) + (bs.getD i 0 - 48)) := fun i hi => numD_take hi
  have NB : Hid (∀ i, i ≤ bs.length → (∀ c ∈ bs.take i, isDg c) → numD (bs.take i) < 10000000000000000) := fun i hi hd => by
    have := numD_lt _ hd
    have h16 : 10 ^ (bs.take i).length ≤ 10 ^ 16 := Nat.pow_le_pow_right (by omega) (by rw [List.length_take]; omega)
    omega
  have DT : Hid (∀ i, i < bs.length → (∀ c ∈ bs.take i, isDg c) → isDg (bs.getD i 0) → ∀ c ∈ bs.take (i + 1), isDg c) := fun i hi hd hx c hc => by
    rw [List.take_add_one, List.getElem?_eq_getElem hi] at hc
    rcases List.mem_append.1 hc with hc | hc
    · exact hd c hc
    · simp at hc
      rw [hc]
      rw [List.getD_eq_getElem?_getD, List.getElem?_eq_getElem hi] at hx
      exact hx
  have TK : Hid (bs.take bs.length = bs) := List.take_length
  have YES : Hid (∀ c : Nat, c < 256 → 48 ≤ c ∧ c ≤ 57 → ∀ w, Calls Tryd.prog 71 #[.int .u8 (c : Int)] w fun e w' => e = .returned (.tuple #[.int .i64 ((c - 48 : Nat) : Int), .bool true]) ∧ w = w') := fun c _ h w => digitOf_yes c w h
  have NO : Hid (∀ c : Nat, ¬ (48 ≤ c ∧ c ≤ 57) → ∀ w, Calls Tryd.prog 71 #[.int .u8 (c : Int)] w fun e w' => e = .returned (.tuple #[.int .i64 0, .bool false]) ∧ w = w') := fun c h w => digitOf_no c w h
  have H8 : Hid (∀ c ∈ bs, c < 256) := h8
  obtain ⟨L, hL⟩ : ∃ L, bs.length = L := ⟨_, rfl⟩
  rw [List.length_map, hL] at e
  rw [hL] at hl GI NT NB DT TK
  subst e
  obtain ⟨r, hr⟩ : ∃ r, decide (∀ c ∈ bs, isDg c) = r := ⟨_, rfl⟩
  have RN : Hid ((¬ ∀ c ∈ bs, isDg c) → r = false ∧ (if (∀ c ∈ bs, isDg c) then numD bs else 0) = 0) := fun h => ⟨by rw [← hr]; exact decide_eq_false h, if_neg h⟩
  have RY : Hid ((∀ c ∈ bs, isDg c) → r = true ∧ (if (∀ c ∈ bs, isDg c) then numD bs else 0) = numD bs) := fun h => ⟨by rw [← hr]; exact decide_eq_true h, if_pos h⟩
  rw [hr]
  generalize (if (∀ c ∈ bs, isDg c) then numD bs else 0) = R at *
  clear hr H hcap hL h8
  go_enter Tryd.func74, Tryd.ntmps74
  go_wp2_with fail
  go_loopw [4, 11] (fun vs vk wr => ∃ (k s : Nat), wr = w ∧ vk = .int .i64 (k : Int) ∧ k ≤ L ∧ vs = .int .i64 (s : Int) ∧ s < 10000000000000000 ∧ Hid (s = numD (bs.take k) ∧ ∀ c ∈ bs.take k, isDg c)) (fun _ vk _ => L - (intOf vk).toNat)
  case atStart => exact ⟨0, 0, rfl, rfl, by omega, rfl, by omega, ⟨rfl, by simp⟩⟩
  case round =>
    obtain ⟨k, s, rfl, rfl, hk, rfl, hs, HR⟩ := hrel
    by_cases hlt : (k : Int) < (L : Int)
    · obtain ⟨g, o, rfl, c0, hm⟩ := GI.out k (by omega)
      have hx8 := H8.out _ hm
      have N1 : Hid (numD (bs.take (k + 1)) = 10 * s + (bs.getD k 0 - 48)) := by show _ = _; rw [NT.out k (by omega), ← HR.out.1]
      by_cases hd : 48 ≤ bs.getD k 0 ∧ bs.getD k 0 ≤ 57
      · have D1 : Hid (∀ c ∈ bs.take (k + 1), isDg c) := DT.out k (by omega) HR.out.2 hd
        have nb := NB.out (k + 1) (by omega) D1.out
        rw [N1.out] at nb
        have YC := YES.out _ hx8 hd wr
        generalize bs.getD k 0 = x at *
        clear HR hm
        go_wp2_with fail
        refine YC.mono ?_
        rintro e w2 ⟨rfl, rfl⟩
        clear YC
        go_wp2_with fail
        go_roundw
        case rel => exact ⟨k + 1, 10 * s + (x - 48), trivial, by go_num, by omega, by go_num, nb, ⟨N1.out.symm, D1.out⟩⟩
        case measure => simp [intOf]; omega
      · have RZ : Hid (r = false ∧ R = 0) := RN.out (fun hh => hd (hh _ hm))
        have NC := NO.out _ hd wr
        generalize bs.getD k 0 = x at *
        clear HR hm
        go_wp2_with fail
        refine NC.mono ?_
        rintro e w2 ⟨rfl, rfl⟩
        clear NC
        go_wp2_with fail
        go_ret2
        rw [RZ.out.1, RZ.out.2]
        exact ⟨rfl, rfl⟩
    · obtain rfl : k = L := by omega
      have HS : Hid (r = true ∧ R = s) := by
        have := HR.out
        rw [TK.out] at this
        have q := RY.out this.2
        exact ⟨q.1, by rw [q.2, this.1]⟩
      clear HR
      go_wp2_with fail
      go_ret2
      rw [HS.out.1, HS.out.2]
      exact ⟨rfl, rfl⟩
end Go.Proofs.YtnjpmihffenkcaaDoor
