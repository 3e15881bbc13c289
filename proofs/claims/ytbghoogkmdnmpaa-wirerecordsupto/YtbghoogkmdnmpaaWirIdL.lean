/-
  Ours: the program's List of ids, and its takeList.
-/
import Derived.Test.YtbghoogkmdnmpaaWirId
import Derived.Deep.RegionWith
import Derived.Deep.CutRange
namespace Go.Proofs.Ytbghoogkmdnmpaa
open Go.RowKit

theorem grown_row {w a b : World} {R : Nat} {row : Option Nat} (h : w.grownBy a (some R)) (k : a.grownBy b row) (hD : ∀ g, row = some g → w.heap.size ≤ g) : w.grownBy b (some R) :=
  ⟨k.os.trans h.os, k.tape.trans h.tape, k.output.trans h.output, Nat.le_trans h.size k.size, fun i hi hn => (k.block i (Nat.lt_of_lt_of_le hi h.size) (fun e => by have := hD i e.symm; omega)).trans (h.block i hi hn)⟩
theorem RS.keep {bs : List Nat} {R : Nat} {v : Value} {st : Option Nat} {w w' : World} {row : Option Nat} (h : RS bs R v st w) (hb : w.grownBy w' row) (hR : row ≠ some R) (hv : 0 < bs.length → ∀ g, v.ownBlock = some g → row ≠ some g) : RS bs R v st w' := by
  cases row with
  | none => exact h.below (below_none hb)
  | some g => exact h.other hb (fun e => hR (by rw [e])) (fun h0 e => hv h0 g e rfl)

/-- The answer of the program's List of ids. -/
def ListN (bs : List Nat) (R : Nat) (v : Value) (w : World) (r : Option (List Int × Nat)) (e : Ending) (w' : World) : Prop :=
  ∃ vl xs y k, e = .returned (.tuple #[vl, .int .i64 y, .bool k]) ∧ RowN w.heap.size w' vl xs ∧ (∃ st, RS bs R v st w') ∧ w.grownBy w' (some R) ∧ ((r = none ∧ xs = [] ∧ y = 0 ∧ k = false) ∨ (∃ q : Nat, r = some (xs, q) ∧ y = (q : Int) ∧ k = true))

set_option maxRecDepth 20000 in
set_option maxHeartbeats 4000000 in
theorem listN_at (bs : List Nat) (hb : ∀ c ∈ bs, c < 256) (hl : bs.length ≤ 1000000000000) (R q0 : Nat) (v : Value) (p : Nat) (w : World) (h : RS bs R v (some q0) w) (hp : p ≤ bs.length) :
    Calls Try.prog 107 #[v, .int .i64 (p : Int), .func (.func 79) #[.pointer (some ⟨R, 0, none⟩)] #[]] w (ListN bs R v w (listI bs p)) := by
  obtain ⟨i0, hi, hz0, hz1, hz2⟩ := info_parts infoN
  have C : Hid (Calls Try.prog 138 #[v, .int .i64 (p : Int)] w fun e w' => e = lenAns (lenR bs (p : Int)) ∧ w' = w) := length_at bs p v w hb (by omega) (by omega) (by omega) h.rd
  have hR := h.lt
  have HV : Hid (0 < bs.length → ∀ g, v.ownBlock = some g → g < w.heap.size) := fun h0 g e => Rd.block h.rd (by rw [List.length_map]; exact h0) e
  have H0 : Hid (∃ st, RS bs R v (some st) w) := ⟨_, h⟩
  have HG : Hid (∀ w' q1 (q : Nat), RS bs R v (some q1) w' → q ≤ bs.length → Calls Try.prog 79 #[.pointer (some ⟨R, 0, none⟩), v, .int .i64 (q : Int)] w' fun e w'' => (∃ y : Int, e = .returned (.tuple #[.int .i64 (tkI bs (some q)).1, .int .i64 y, .bool (tkI bs (some q)).2.isSome]) ∧ ∀ n, (tkI bs (some q)).2 = some n → y = (n : Int)) ∧ RS bs R v (tkI bs (some q)).2 w'' ∧ w'.grownBy w'' (some R)) := fun w' q1 q h1 h2 => id_at bs hb hl R q1 v q w' h1 h2
  obtain ⟨L, hL⟩ : ∃ L, bs.length = L := ⟨_, rfl⟩
  obtain ⟨ao, cap, ev, hcap, hn⟩ := h.rd.len
  rw [List.length_map, hL] at ev hcap
  subst ev
  have HB : Hid (∀ c ∈ bs, c < 256) := hb
  unfold listI
  cases hr : lenR bs (p : Int) with
  | none =>
    rw [hr] at C
    clear hr h HG hb
    go_enter Try.func107, Try.ntmps107
    go_wp2_with fail
    refine C.out.mono ?_
    rintro e w1 ⟨rfl, hw⟩; rw [hw]; clear hw w1
    simp only [lenAns]
    go_wp2_with fail
    go_ret3
    obtain ⟨st, hst⟩ := H0.out
    exact ⟨_, [], _, _, rfl, RowV.nil _ _ _, ⟨_, hst⟩, grownBy_refl _ _, .inl ⟨rfl, rfl, rfl, rfl⟩⟩
  | some q =>
    obtain ⟨n, f⟩ := q
    obtain ⟨_, f0, f1, f2⟩ := lenR_le hb hr
    rw [hr] at C
    rw [hL] at hl f2
    have hL' : Hid (bs.length = L) := hL
    clear hr h hL hb hp
    simp only
    go_enter Try.func107, Try.ntmps107
    go_wp2_with fail
    refine C.out.mono ?_
    rintro e w1 ⟨rfl, hw⟩; rw [hw]; clear hw w1
    simp only [lenAns]
    go_wp2_with fail
    go_loopw [12, 10, 26] (fun vl vq vk wr => ∃ (k : Nat) (xs : List Int) (q : Nat), vk = .int .i64 (k : Int) ∧ vq = .int .i64 (q : Int) ∧ q ≤ L ∧ k ≤ n ∧ Hid (ReadI bs n f k xs q) ∧ RowN w.heap.size wr vl xs ∧ Hid (∃ st, RS bs R (.slice ao L cap) (some st) wr) ∧ w.grownBy wr (some R)) (fun _ _ vk _ => n - (intOf vk).toNat)
    case atStart => exact ⟨0, [], f, rfl, rfl, by omega, by omega, ReadI.start bs n f, RowV.nil _ _ _, H0, grownBy_refl _ _⟩
    case round =>
      obtain ⟨k, xs, q, rfl, rfl, q1, hk, HR, hown, HS, hnx⟩ := hrel
      by_cases hlt : (k : Int) < (n : Int)
      · obtain ⟨st, hst⟩ := HS.out
        have G := HG.out _ st q hst (by rw [hL'.out]; exact q1)
        have lx := HR.out.len
        have l1 : (xs.map (Value.int .i64)).length + 1 ≤ maxLen := by rw [List.length_map]; unfold maxLen; omega
        have l2 : ((xs.map (Value.int .i64)).length + 1) * 8 ≤ 140737488355328 := by rw [List.length_map]; omega
        clear lx hst
        cases hrd : Go.Proofs.Ytbghoogkmdnmpaa.rd bs (q : Int) with
        | none =>
          have T : tkI bs (some q) = (0, none) := by unfold tkI; simp only; rw [hrd]
          rw [T] at G
          have HF : Hid (elemsI bs n f = none) := HR.out.fails (by omega) hrd
          simp only [Option.isSome] at G
          clear hrd T
          go_wp2_with fail
          refine G.mono ?_
          rintro e w2 ⟨⟨y, rfl, _⟩, s2, g2⟩
          have S2 : Hid (RS bs R (.slice ao L cap) none w2) := s2
          have N2 : Hid (w.grownBy w2 (some R)) := grownBy_trans hnx g2
          clear G hown hnx g2 s2
          go_wp2_with fail
          go_ret3
          exact ⟨_, [], _, _, rfl, RowV.nil _ _ _, ⟨_, S2.out⟩, N2.out, .inl ⟨HF.out, rfl, rfl, rfl⟩⟩
        | some un =>
          obtain ⟨u, n1⟩ := un
          obtain ⟨_, _, y1, y2⟩ := rd_le bs q u n1 HB.out hrd
          have T : tkI bs (some q) = (unzz u, some n1) := by unfold tkI; simp only; rw [hrd]
          rw [T] at G
          have HS2 : Hid (ReadI bs n f (k + 1) (xs ++ [unzz u]) n1) := HR.out.step (by omega) hrd
          simp only [Option.isSome] at G
          rw [hL'.out] at y1
          clear hrd T y2
          generalize unzz u = X at *
          have d1 : decide ((n1 : Int) ≤ (q : Int)) = false := decide_eq_false (by omega)
          have d2 : decide ((L : Int) < (n1 : Int)) = false := decide_eq_false (by omega)
          go_wp2_with fail
          refine G.mono ?_
          rintro e w2 ⟨⟨y, rfl, hy⟩, s2, g2⟩
          obtain rfl := hy n1 rfl
          have S2 : Hid (RS bs R (.slice ao L cap) (some n1) w2) := s2
          have N2 := grownBy_trans hnx g2
          have own2 : RowN w.heap.size w2 _ xs := RowV.kept hown g2 (fun g hg e => by have := hown.block_ge hg; injection e with e; omega)
          have sz2 := N2.size
          clear G hown hnx g2 s2 hy
          go_wp2_with (at_builtin; refine wpList_pushV rfl (.tmp 49) (.tmp 51) 24 rfl 3 i0 (.int .i64 0) 8 underN hi hz0 hz1 hz2 rfl w.heap.size _ _ _ rfl rfl own2 sz2 rfl l1 l2 ?_; intro v' w3 hown' hgr)
          have S3 : Hid (∃ st, RS bs R (.slice ao L cap) (some st) w3) := ⟨n1, S2.out.keep hgr (fun e => by have := own2.block_ge e; omega) (fun h0 g hg e => by have := own2.block_ge e; have := HV.out h0 g hg; omega)⟩
          have N3 : w.grownBy w3 (some R) := grown_row N2 hgr (fun g e => own2.block_ge e)
          go_roundw
          case rel => exact ⟨k + 1, xs ++ [X], n1, by go_num, rfl, by omega, by omega, HS2, by simpa [RowN] using hown', S3, N3⟩
          case measure => simp [intOf]; omega
      · obtain rfl : k = n := by omega
        have E : Hid (elemsI bs k f = some (xs, q)) := HR.out.ends
        go_wp2_with fail
        go_ret3
        obtain ⟨st, hst⟩ := HS.out
        exact ⟨_, xs, _, _, rfl, hown, ⟨_, hst⟩, hnx, .inr ⟨q, E.out, rfl, rfl⟩⟩
end Go.Proofs.Ytbghoogkmdnmpaa
