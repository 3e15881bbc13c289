/-
  Ours: the program's takeList of ids.
-/
import Derived.Test.YtdbjjeaflfoppaaWirWhole
import Derived.Test.YtdbjjeaflfoppaaWirRec0
import Derived.Deep.RegionWith
import Derived.Deep.CutRange
namespace Go.Proofs.Ytdbjjeaflfoppaa
open Go.RowKit

abbrev RowN (base : Nat) (w : World) (v : Value) (xs : List Int) : Prop := RowV 3 base w v (xs.map (Value.int .i64))
theorem infoN : (Try.prog.info? 3).map (fun i => (i.zero, i.size, i.bytes)) = some (some (.int .i64 0), 1, 8) := by kernel_rfl
theorem underN : Try.prog.underlying 24 = some (.slice 3) := by kernel_rfl

/-- Numbers read one behind the other. -/
def elemsI (bs : List Nat) : Nat → Nat → Option (List Int × Nat)
  | 0, p => some ([], p)
  | n + 1, p => match Go.Proofs.Ytdbjjeaflfoppaa.rd bs (p : Int) with
    | some (u, q) => (elemsI bs n q).map fun r => (unzz u :: r.1, r.2)
    | none => none
/-- A list of numbers at a place. -/
def listI (bs : List Nat) (p : Nat) : Option (List Int × Nat) := match lenR bs (p : Int) with
  | some (v, n) => elemsI bs v n
  | none => none
theorem elemsI_len (bs : List Nat) : ∀ (n p : Nat) (q : List Int × Nat), elemsI bs n p = some q → q.1.length = n
  | 0, p, q, h => by simp [elemsI] at h; subst h; rfl
  | n + 1, p, q, h => by
    unfold elemsI at h
    cases hr : Go.Proofs.Ytdbjjeaflfoppaa.rd bs (p : Int) with
    | none => rw [hr] at h; cases h
    | some u =>
      obtain ⟨u, q'⟩ := u
      rw [hr] at h
      simp only at h
      obtain ⟨r, h1, rfl⟩ := Option.map_eq_some_iff.1 h
      simp [elemsI_len bs n _ r h1]
theorem elemsI_le (bs : List Nat) (hb : ∀ c ∈ bs, c < 256) : ∀ (n p : Nat) (q : List Int × Nat), p ≤ bs.length → elemsI bs n p = some q → q.2 ≤ bs.length
  | 0, p, q, hp, h => by simp [elemsI] at h; subst h; exact hp
  | n + 1, p, q, hp, h => by
    unfold elemsI at h
    cases hr : Go.Proofs.Ytdbjjeaflfoppaa.rd bs (p : Int) with
    | none => rw [hr] at h; cases h
    | some u =>
      obtain ⟨u, q'⟩ := u
      have := rd_le bs p u q' hb hr
      rw [hr] at h
      simp only at h
      obtain ⟨r, h1, rfl⟩ := Option.map_eq_some_iff.1 h
      exact elemsI_le bs hb n q' r (by omega) h1
/-- The state of a reading: n were asked for at first, k are read. -/
structure ReadI (bs : List Nat) (n p0 k : Nat) (xs : List Int) (p : Nat) : Prop where
  le : k ≤ n
  len : xs.length = k
  rest : elemsI bs n p0 = (elemsI bs (n - k) p).map fun q => (xs ++ q.1, q.2)
theorem ReadI.start (bs : List Nat) (n p : Nat) : ReadI bs n p 0 [] p := ⟨by omega, rfl, by simp⟩
theorem ReadI.step {bs : List Nat} {n p0 k p u q : Nat} {xs : List Int} (h : ReadI bs n p0 k xs p) (hk : k < n) (h1 : Go.Proofs.Ytdbjjeaflfoppaa.rd bs (p : Int) = some (u, q)) : ReadI bs n p0 (k + 1) (xs ++ [unzz u]) q := by
  refine ⟨by omega, by simp [h.len], ?_⟩
  rw [h.rest, show n - k = (n - (k + 1)) + 1 by omega, elemsI, h1]
  simp only
  rw [Option.map_map]
  congr 1
  funext q
  simp
theorem ReadI.fails {bs : List Nat} {n p0 k p : Nat} {xs : List Int} (h : ReadI bs n p0 k xs p) (hk : k < n) (h1 : Go.Proofs.Ytdbjjeaflfoppaa.rd bs (p : Int) = none) : elemsI bs n p0 = none := by
  rw [h.rest, show n - k = (n - (k + 1)) + 1 by omega, elemsI, h1]; rfl
theorem ReadI.ends {bs : List Nat} {n p0 p : Nat} {xs : List Int} (h : ReadI bs n p0 n xs p) : elemsI bs n p0 = some (xs, p) := by
  rw [h.rest, Nat.sub_self, elemsI]; simp

theorem RS.drewN {bs : List Nat} {R : Nat} {v : Value} {st : Option Nat} {w : World} (h : RS bs R v st w) (n : Nat) : RS bs R v st (w.drewN n) := ⟨h.c0, h.c1, h.c2, h.fz, h.lt, h.rd, h.ap, h.le⟩
/-- The reader set to another place. -/
theorem RS.seek {bs : List Nat} {R q0 : Nat} {v : Value} {w : World} (h : RS bs R v (some q0) w) (p : Nat) (hp : p ≤ bs.length) :
    RS bs R v (some p) ((w.setCell ⟨R, 0, none⟩ v).setCell ⟨R, 1, none⟩ (.int .i64 (p : Int))) ∧ w.grownBy ((w.setCell ⟨R, 0, none⟩ v).setCell ⟨R, 1, none⟩ (.int .i64 (p : Int))) (some R) := by
  have g := grownBy_trans (setCell_grown w R 0 v) (setCell_grown (w.setCell ⟨R, 0, none⟩ v) R 1 (.int .i64 (p : Int)))
  obtain ⟨p0, hp0, _⟩ := h.c1
  refine ⟨⟨?_, ⟨p, ?_, fun q h => by cases h; rfl⟩, ?_, ?_, Nat.lt_of_lt_of_le h.lt g.size, ?_, h.ap, fun q h => by cases h; exact hp⟩, g⟩
  · rw [World.cell?_setCell_other _ _ _ _ (by simp)]; exact World.cell?_setCell_same _ _ _ h.c0
  · exact World.cell?_setCell_same _ _ _ ((World.cell?_setCell_other _ _ _ _ (by simp)).trans hp0)
  · rw [World.cell?_setCell_other _ _ _ _ (by simp), World.cell?_setCell_other _ _ _ _ (by simp)]; exact h.c2
  · intro i
    rw [World.frozen?_setCell, World.frozen?_setCell]; exact h.fz i
  · exact Rd.grownN h.rd g (by rw [List.length_map]; exact h.ap)

set_option maxRecDepth 20000 in
theorem seekS_at (bs : List Nat) (R q0 : Nat) (v : Value) (p : Nat) (w : World) (h : RS bs R v (some q0) w) (hp : p ≤ bs.length) :
    Calls Try.prog 68 #[.pointer (some ⟨R, 0, none⟩), v, .int .i64 (p : Int)] w fun e w' => e = .returned (.tuple #[]) ∧ RS bs R v (some p) w' ∧ w.grownBy w' (some R) := by
  have S : Hid (RS bs R v (some p) ((w.setCell ⟨R, 0, none⟩ v).setCell ⟨R, 1, none⟩ (.int .i64 (p : Int))) ∧ w.grownBy ((w.setCell ⟨R, 0, none⟩ v).setCell ⟨R, 1, none⟩ (.int .i64 (p : Int))) (some R)) := h.seek p hp
  have c0 := h.c0
  obtain ⟨p0, c1, _⟩ := h.c1
  have f0 := h.fz 0
  have f1 := h.fz 1
  obtain ⟨ao, cap, rfl, _, _⟩ := h.rd.len
  simp only [List.length_map] at S c0 ⊢
  clear h
  go_enter Try.func68, Try.ntmps68
  go_wp2_with fail
  go_end0
  exact ⟨rfl, S.out⟩

set_option maxRecDepth 20000 in
set_option maxHeartbeats 1000000 in
theorem id_at (bs : List Nat) (hb : ∀ c ∈ bs, c < 256) (hl : bs.length ≤ 1000000000000) (R q0 : Nat) (v : Value) (p : Nat) (w : World) (h : RS bs R v (some q0) w) (hp : p ≤ bs.length) :
    Calls Try.prog 72 #[.pointer (some ⟨R, 0, none⟩), v, .int .i64 (p : Int)] w fun e w' => (∃ y : Int, e = .returned (.tuple #[.int .i64 (tkI bs (some p)).1, .int .i64 y, .bool (tkI bs (some p)).2.isSome]) ∧ ∀ q, (tkI bs (some p)).2 = some q → y = (q : Int)) ∧ RS bs R v (tkI bs (some p)).2 w' ∧ w.grownBy w' (some R) := by
  have SK : Hid (Calls Try.prog 68 #[.pointer (some ⟨R, 0, none⟩), v, .int .i64 (p : Int)] w fun e w' => e = .returned (.tuple #[]) ∧ RS bs R v (some p) w' ∧ w.grownBy w' (some R)) := seekS_at bs R q0 v p w h hp
  have NU : Hid (∀ w, RS bs R v (some p) w → Calls Try.prog 74 #[.pointer (some ⟨R, 0, none⟩)] w fun e w' => e = .returned (.int .i64 (tkI bs (some p)).1) ∧ RS bs R v (tkI bs (some p)).2 w' ∧ w.grownBy w' (some R)) := fun w h => number_at bs hb hl R v (some p) w h
  obtain ⟨ao, cap, ev, _, _⟩ := h.rd.len
  generalize (bs.map bv).length = L at ev
  subst ev
  generalize (tkI bs (some p)).2 = st' at *
  generalize (tkI bs (some p)).1 = x at *
  clear h hb hl hp
  go_enter Try.func72, Try.ntmps72
  go_wp2_with fail
  refine SK.out.mono ?_
  rintro e w1 ⟨rfl, s1, g1⟩
  have S1 : Hid (RS bs R (.slice ao L cap) (some p) w1) := s1
  clear s1
  go_wp2_with fail
  refine (NU.out _ S1.out).mono ?_
  rintro e w2 ⟨rfl, s2, g2⟩
  obtain ⟨y, c1, hy⟩ := s2.c1
  have c2 := s2.c2
  have S2 : Hid (RS bs R (.slice ao L cap) st' w2) := s2
  have HY : Hid (∀ q, st' = some q → y = (q : Int)) := hy
  have G2 : Hid (w.grownBy w2 (some R)) := grownBy_trans g1 g2
  clear s2 hy g1 g2 SK NU S1
  obtain ⟨nb, hnb⟩ : ∃ b, st'.isNone = b := ⟨_, rfl⟩
  have NB : Hid (st'.isSome = !nb) := by show _ = _; rw [← hnb]; cases st' <;> rfl
  rw [hnb] at c2
  clear hnb
  go_wp2_with fail
  go_quiet (fail)
  go_wp2_with fail
  go_ret3
  refine ⟨⟨y, ?_, HY.out⟩, ?_, ?_⟩
  · rw [NB.out]; rfl
  · exact S2.out.drewN _
  · exact grownBy_drewN G2.out _
end Go.Proofs.Ytdbjjeaflfoppaa

namespace Go.Proofs.Ytdbjjeaflfoppaa
open Go.RowKit

theorem grown_row {w a b : World} {R : Nat} {row : Option Nat} (h : w.grownBy a (some R)) (k : a.grownBy b row) (hD : ∀ g, row = some g → w.heap.size ≤ g) : w.grownBy b (some R) :=
  ⟨k.os.trans h.os, k.tape.trans h.tape, k.output.trans h.output, Nat.le_trans h.size k.size, fun i hi hn => (k.block i (Nat.lt_of_lt_of_le hi h.size) (fun e => by have := hD i e.symm; omega)).trans (h.block i hi hn)⟩
theorem RS.keep {bs : List Nat} {R : Nat} {v : Value} {st : Option Nat} {w w' : World} {row : Option Nat} (h : RS bs R v st w) (hb : w.grownBy w' row) (hR : row ≠ some R) (hv : 0 < bs.length → ∀ g, v.ownBlock = some g → row ≠ some g) : RS bs R v st w' := by
  cases row with
  | none => exact h.below (below_none hb)
  | some g => exact h.other hb (fun e => hR (by rw [e])) (fun h0 e => hv h0 g e rfl)

/-- The answer of the program's List of ids. -/
def ListN (bs : List Nat) (R : Nat) (v : Value) (w : World) (r : Option (List Int × Nat)) (e : Ending) (w' : World) : Prop :=
  ∃ vl xs y k, e = .returned (.tuple #[vl, .int .i64 y, .bool k]) ∧ RowN w.heap.size w' vl xs ∧ (∃ st, RS bs R v st w') ∧ w.grownBy w' (some R) ∧ ((r = none ∧ xs = [] ∧ y = 0 ∧ k = false) ∨ (∃ q : Nat, r = some (xs, q) ∧ y = (q : Int) ∧ k = true))

set_option maxRecDepth 20000 in
set_option maxHeartbeats 4000000 in
theorem listN_at (bs : List Nat) (hb : ∀ c ∈ bs, c < 256) (hl : bs.length ≤ 1000000000000) (R q0 : Nat) (v : Value) (p : Nat) (w : World) (h : RS bs R v (some q0) w) (hp : p ≤ bs.length) :
    Calls Try.prog 98 #[v, .int .i64 (p : Int), .func (.func 72) #[.pointer (some ⟨R, 0, none⟩)] #[]] w (ListN bs R v w (listI bs p)) := by
  obtain ⟨i0, hi, hz0, hz1, hz2⟩ := info_parts infoN
  have C : Hid (Calls Try.prog 127 #[v, .int .i64 (p : Int)] w fun e w' => e = lenAns (lenR bs (p : Int)) ∧ w' = w) := length_at bs p v w hb (by omega) (by omega) (by omega) h.rd
  have hR := h.lt
  have HV : Hid (0 < bs.length → ∀ g, v.ownBlock = some g → g < w.heap.size) := fun h0 g e => Rd.block h.rd (by rw [List.length_map]; exact h0) e
  have H0 : Hid (∃ st, RS bs R v (some st) w) := ⟨_, h⟩
  have HG : Hid (∀ w' q1 (q : Nat), RS bs R v (some q1) w' → q ≤ bs.length → Calls Try.prog 72 #[.pointer (some ⟨R, 0, none⟩), v, .int .i64 (q : Int)] w' fun e w'' => (∃ y : Int, e = .returned (.tuple #[.int .i64 (tkI bs (some q)).1, .int .i64 y, .bool (tkI bs (some q)).2.isSome]) ∧ ∀ n, (tkI bs (some q)).2 = some n → y = (n : Int)) ∧ RS bs R v (tkI bs (some q)).2 w'' ∧ w'.grownBy w'' (some R)) := fun w' q1 q h1 h2 => id_at bs hb hl R q1 v q w' h1 h2
  obtain ⟨L, hL⟩ : ∃ L, bs.length = L := ⟨_, rfl⟩
  obtain ⟨ao, cap, ev, hcap, hn⟩ := h.rd.len
  rw [List.length_map, hL] at ev hcap
  subst ev
  have HB : Hid (∀ c ∈ bs, c < 256) := hb
  unfold listI
  cases hr : lenR bs (p : Int) with
  | none =>
    rw [hr] at C
    clear hr h HG hb
    go_enter Try.func98, Try.ntmps98
    go_wp2_with fail
    refine C.out.mono ?_
    rintro e w1 ⟨rfl, hw⟩; rw [hw]; clear hw w1
    simp only [lenAns]
    go_wp2_with fail
    go_ret3
    obtain ⟨st, hst⟩ := H0.out
    exact ⟨_, [], _, _, rfl, RowV.nil _ _ _, ⟨_, hst⟩, grownBy_refl _ _, .inl ⟨rfl, rfl, rfl, rfl⟩⟩
  | some q =>
    obtain ⟨n, f⟩ := q
    obtain ⟨_, f0, f1, f2⟩ := lenR_le hb hr
    rw [hr] at C
    rw [hL] at hl f2
    have hL' : Hid (bs.length = L) := hL
    clear hr h hL hb hp
    simp only
    go_enter Try.func98, Try.ntmps98
    go_wp2_with fail
    refine C.out.mono ?_
    rintro e w1 ⟨rfl, hw⟩; rw [hw]; clear hw w1
    simp only [lenAns]
    go_wp2_with fail
    go_loopw [12, 10, 26] (fun vl vq vk wr => ∃ (k : Nat) (xs : List Int) (q : Nat), vk = .int .i64 (k : Int) ∧ vq = .int .i64 (q : Int) ∧ q ≤ L ∧ k ≤ n ∧ Hid (ReadI bs n f k xs q) ∧ RowN w.heap.size wr vl xs ∧ Hid (∃ st, RS bs R (.slice ao L cap) (some st) wr) ∧ w.grownBy wr (some R)) (fun _ _ vk _ => n - (intOf vk).toNat)
    case atStart => exact ⟨0, [], f, rfl, rfl, by omega, by omega, ReadI.start bs n f, RowV.nil _ _ _, H0, grownBy_refl _ _⟩
    case round =>
      obtain ⟨k, xs, q, rfl, rfl, q1, hk, HR, hown, HS, hnx⟩ := hrel
      by_cases hlt : (k : Int) < (n : Int)
      · obtain ⟨st, hst⟩ := HS.out
        have G := HG.out _ st q hst (by rw [hL'.out]; exact q1)
        have lx := HR.out.len
        have l1 : (xs.map (Value.int .i64)).length + 1 ≤ maxLen := by rw [List.length_map]; unfold maxLen; omega
        have l2 : ((xs.map (Value.int .i64)).length + 1) * 8 ≤ 140737488355328 := by rw [List.length_map]; omega
        clear lx hst
        cases hrd : Go.Proofs.Ytdbjjeaflfoppaa.rd bs (q : Int) with
        | none =>
          have T : tkI bs (some q) = (0, none) := by unfold tkI; simp only; rw [hrd]
          rw [T] at G
          have HF : Hid (elemsI bs n f = none) := HR.out.fails (by omega) hrd
          simp only [Option.isSome] at G
          clear hrd T
          go_wp2_with fail
          refine G.mono ?_
          rintro e w2 ⟨⟨y, rfl, _⟩, s2, g2⟩
          have S2 : Hid (RS bs R (.slice ao L cap) none w2) := s2
          have N2 : Hid (w.grownBy w2 (some R)) := grownBy_trans hnx g2
          clear G hown hnx g2 s2
          go_wp2_with fail
          go_ret3
          exact ⟨_, [], _, _, rfl, RowV.nil _ _ _, ⟨_, S2.out⟩, N2.out, .inl ⟨HF.out, rfl, rfl, rfl⟩⟩
        | some un =>
          obtain ⟨u, n1⟩ := un
          obtain ⟨_, _, y1, y2⟩ := rd_le bs q u n1 HB.out hrd
          have T : tkI bs (some q) = (unzz u, some n1) := by unfold tkI; simp only; rw [hrd]
          rw [T] at G
          have HS2 : Hid (ReadI bs n f (k + 1) (xs ++ [unzz u]) n1) := HR.out.step (by omega) hrd
          simp only [Option.isSome] at G
          rw [hL'.out] at y1
          clear hrd T y2
          generalize unzz u = X at *
          have d1 : decide ((n1 : Int) ≤ (q : Int)) = false := decide_eq_false (by omega)
          have d2 : decide ((L : Int) < (n1 : Int)) = false := decide_eq_false (by omega)
          go_wp2_with fail
          refine G.mono ?_
          rintro e w2 ⟨⟨y, rfl, hy⟩, s2, g2⟩
          obtain rfl := hy n1 rfl
          have S2 : Hid (RS bs R (.slice ao L cap) (some n1) w2) := s2
          have N2 := grownBy_trans hnx g2
          have own2 : RowN w.heap.size w2 _ xs := RowV.kept hown g2 (fun g hg e => by have := hown.block_ge hg; injection e with e; omega)
          have sz2 := N2.size
          clear G hown hnx g2 s2 hy
          go_wp2_with (at_builtin; refine wpList_pushV rfl (.tmp 49) (.tmp 51) 24 rfl 3 i0 (.int .i64 0) 8 underN hi hz0 hz1 hz2 rfl w.heap.size _ _ _ rfl rfl own2 sz2 rfl l1 l2 ?_; intro v' w3 hown' hgr)
          have S3 : Hid (∃ st, RS bs R (.slice ao L cap) (some st) w3) := ⟨n1, S2.out.keep hgr (fun e => by have := own2.block_ge e; omega) (fun h0 g hg e => by have := own2.block_ge e; have := HV.out h0 g hg; omega)⟩
          have N3 : w.grownBy w3 (some R) := grown_row N2 hgr (fun g e => own2.block_ge e)
          go_roundw
          case rel => exact ⟨k + 1, xs ++ [X], n1, by go_num, rfl, by omega, by omega, HS2, by simpa [RowN] using hown', S3, N3⟩
          case measure => simp [intOf]; omega
      · obtain rfl : k = n := by omega
        have E : Hid (elemsI bs k f = some (xs, q)) := HR.out.ends
        go_wp2_with fail
        go_ret3
        obtain ⟨st, hst⟩ := HS.out
        exact ⟨_, xs, _, _, rfl, hown, ⟨_, hst⟩, hnx, .inr ⟨q, E.out, rfl, rfl⟩⟩
end Go.Proofs.Ytdbjjeaflfoppaa

namespace Go.Proofs.Ytdbjjeaflfoppaa
open Go.RowKit

/-- A list of numbers taken. -/
def tkL (bs : List Nat) (st : Option Nat) : List Int × Option Nat := match st with
  | none => ([], none)
  | some p => match listI bs p with
    | some (xs, n) => (xs, some n)
    | none => ([], none)
theorem listI_le {bs : List Nat} {p n : Nat} {xs : List Int} (hb : ∀ c ∈ bs, c < 256) (h : listI bs p = some (xs, n)) : n ≤ bs.length ∧ xs.length ≤ bs.length := by
  unfold listI at h
  cases hr : lenR bs (p : Int) with
  | none => rw [hr] at h; cases h
  | some q =>
    obtain ⟨k, f⟩ := q
    have hle := lenR_le hb hr
    rw [hr] at h
    simp only at h
    have e1 := elemsI_len bs k f _ h
    have e2 := elemsI_le bs hb k f _ (by omega) h
    simp only at e1 e2
    omega
theorem tkL_len (bs : List Nat) (hb : ∀ c ∈ bs, c < 256) (st : Option Nat) : (tkL bs st).1.length ≤ bs.length := by
  cases st with
  | none => simp [tkL]
  | some p =>
    unfold tkL
    simp only
    cases hr : listI bs p with
    | none => simp
    | some q => obtain ⟨xs, n⟩ := q; exact (listI_le hb hr).2

abbrev idF (R : Nat) : Value := .func (.func 72) #[.pointer (some ⟨R, 0, none⟩)] #[]

set_option maxRecDepth 20000 in
theorem closL_at (bs : List Nat) (hb : ∀ c ∈ bs, c < 256) (hl : bs.length ≤ 1000000000000) (R q0 B : Nat) (v : Value) (p : Nat) (w : World) (h : RS bs R v (some q0) w) (hp : p ≤ bs.length) (hB : w.cell? ⟨B, 0, none⟩ = some (idF R)) :
    Calls Try.prog 97 #[v, .int .i64 (p : Int), .pointer (some ⟨B, 0, none⟩)] w (ListN bs R v w (listI bs p)) := by
  have C : Hid (Calls Try.prog 98 #[v, .int .i64 (p : Int), .func (.func 72) #[.pointer (some ⟨R, 0, none⟩)] #[]] w (ListN bs R v w (listI bs p))) := listN_at bs hb hl R q0 v p w h hp
  obtain ⟨ao, cap, ev, _, _⟩ := h.rd.len
  generalize (bs.map bv).length = L at ev
  subst ev
  clear h hb hl hp
  unfold idF at hB
  generalize listI bs p = r at *
  go_enter Try.func97, Try.ntmps97
  go_wp2_with fail
  refine C.out.mono ?_
  rintro e w1 ⟨vl, xs, y, k, rfl, r1, s1, g1, D1⟩
  have K : Hid (ListN bs R (.slice ao L cap) w r (.returned (.tuple #[vl, .int .i64 y, .bool k])) w1) := ⟨vl, xs, y, k, rfl, r1, s1, g1, D1⟩
  clear r1 s1 g1 D1
  go_wp2_with fail
  go_ret3
  exact K.out

set_option maxRecDepth 20000 in
set_option maxHeartbeats 1000000 in
theorem takeL_at (bs : List Nat) (hb : ∀ c ∈ bs, c < 256) (hl : bs.length ≤ 1000000000000) (R B : Nat) (v : Value) (st : Option Nat) (w : World) (h : RS bs R v st w) (hB : w.cell? ⟨B, 0, none⟩ = some (idF R)) :
    Calls Try.prog 96 #[.pointer (some ⟨R, 0, none⟩), .func (.func 97) #[] #[.pointer (some ⟨B, 0, none⟩)]] w fun e w' => ∃ vl, e = .returned vl ∧ RowN w.heap.size w' vl (tkL bs st).1 ∧ RS bs R v (tkL bs st).2 w' ∧ w.grownBy w' (some R) := by
  have c0 := h.c0
  have c2 := h.c2
  obtain ⟨p, c1, hp⟩ := h.c1
  have hR := h.lt
  cases st with
  | none =>
    simp only [Option.isNone] at c2
    have HH : Hid (RS bs R v none w) := h
    clear h hp hB
    go_enter Try.func96, Try.ntmps96
    go_wp2_with fail
    go_ret
    exact ⟨_, rfl, RowV.nil _ _ _, HH.out, grownBy_refl _ _⟩
  | some q =>
    obtain rfl := hp q rfl
    have hq := h.le q rfl
    simp only [Option.isNone] at c2
    have C : Hid (∀ n, Calls Try.prog 97 #[v, .int .i64 (q : Int), .pointer (some ⟨B, 0, none⟩)] (w.drewN n) (ListN bs R v (w.drewN n) (listI bs q))) := fun n => closL_at bs hb hl R q B v q (w.drewN n) (h.drewN n) hq hB
    have T : Hid (tkL bs (some q) = match listI bs q with | some (xs, n) => (xs, some n) | none => ([], none)) := rfl
    have LE : Hid (∀ xs n, listI bs q = some (xs, n) → n ≤ bs.length) := fun xs n e => (listI_le hb e).1
    generalize tkL bs (some q) = TT at *
    generalize listI bs q = LI at *
    clear h hp hB hq hb hl
    go_enter Try.func96, Try.ntmps96
    go_wp2_with fail
    go_cut [6, 7, 8] from 14 to 27 (fun x y z wx => ∃ xs y' k, y = .int .i64 y' ∧ z = .bool k ∧ RowN w.heap.size wx x xs ∧ Hid (∃ st, RS bs R v st wx) ∧ w.grownBy wx (some R) ∧ Hid ((LI = none ∧ xs = [] ∧ y' = 0 ∧ k = false) ∨ (∃ q : Nat, LI = some (xs, q) ∧ y' = (q : Int) ∧ k = true)))
    case first =>
      go_region_with (go_at_call 97; refine (C.out _).mono ?_; rintro e w1 ⟨vl, xs, y, k, rfl, r1, s1, g1, D1⟩)
      all_goals
        go_wp2_with fail
        go_meet
        exact ⟨xs, y, k, rfl, rfl, r1, s1, ⟨g1.os, g1.tape, g1.output, g1.size, g1.block⟩, D1⟩
    case rest =>
      obtain ⟨xs, y', k, rfl, rfl, r1, s1, g1, D1⟩ := hcut
      obtain ⟨st, s⟩ := s1.out
      obtain ⟨p1, k1, _⟩ := s.c1
      have k2 := s.c2
      have fz1 := s.fz 1
      have fz2 := s.fz 2
      have PT : Hid (∀ st' : Option Nat, (∀ q, st' = some q → y' = (q : Int)) → (∀ q, st' = some q → q ≤ bs.length) → RS bs R v st' ((wc.setCell ⟨R, 1, none⟩ (.int .i64 y')).setCell ⟨R, 2, none⟩ (.bool st'.isNone)) ∧ wc.grownBy ((wc.setCell ⟨R, 1, none⟩ (.int .i64 y')).setCell ⟨R, 2, none⟩ (.bool st'.isNone)) (some R)) := fun st' h1 h2 => s.put (st' := st') 0 y' h1 h2
      clear s s1 C
      rcases D1.out with ⟨rfl, rfl, rfl, rfl⟩ | ⟨q1, rfl, rfl, rfl⟩
      · have T' := T.out
        simp only at T'
        subst T'
        obtain ⟨F1, F2⟩ := PT.out none (fun q h => by cases h) (fun q h => by cases h)
        simp only [Option.isNone] at F1 F2
        have F1' : Hid (RS bs R v none ((wc.setCell ⟨R, 1, none⟩ (.int .i64 0)).setCell ⟨R, 2, none⟩ (.bool true))) := F1
        have F2' : Hid (w.grownBy ((wc.setCell ⟨R, 1, none⟩ (.int .i64 0)).setCell ⟨R, 2, none⟩ (.bool true)) (some R)) := grownBy_trans g1 F2
        clear F1 F2 PT D1
        go_wp2_with fail
        go_ret
        exact ⟨_, rfl, RowV.kept r1 (grownBy_trans (setCell_grown _ R 1 _) (setCell_grown _ R 2 _)) (fun g hg e => by have := r1.block_ge hg; injection e with e; omega), F1'.out, F2'.out⟩
      · have T' := T.out
        simp only at T'
        subst T'
        obtain ⟨F1, F2⟩ := PT.out (some q1) (fun q h => by cases h; rfl) (fun q h => by cases h; exact LE.out _ _ rfl)
        simp only [Option.isNone] at F1 F2
        have F1' : Hid (RS bs R v (some q1) ((wc.setCell ⟨R, 1, none⟩ (.int .i64 (q1 : Int))).setCell ⟨R, 2, none⟩ (.bool false))) := F1
        have F2' : Hid (w.grownBy ((wc.setCell ⟨R, 1, none⟩ (.int .i64 (q1 : Int))).setCell ⟨R, 2, none⟩ (.bool false)) (some R)) := grownBy_trans g1 F2
        clear F1 F2 PT D1
        go_wp2_with fail
        go_ret
        exact ⟨_, rfl, RowV.kept r1 (grownBy_trans (setCell_grown _ R 1 _) (setCell_grown _ R 2 _)) (fun g hg e => by have := r1.block_ge hg; injection e with e; omega), F1'.out, F2'.out⟩

set_option maxRecDepth 20000 in
set_option maxHeartbeats 1000000 in
theorem takeList_at (bs : List Nat) (hb : ∀ c ∈ bs, c < 256) (hl : bs.length ≤ 1000000000000) (R : Nat) (v : Value) (st : Option Nat) (w : World) (h : RS bs R v st w) :
    Calls Try.prog 71 #[.pointer (some ⟨R, 0, none⟩), idF R] w fun e w' => ∃ vl, e = .returned vl ∧ RowN w.heap.size w' vl (tkL bs st).1 ∧ RS bs R v (tkL bs st).2 w' ∧ w.grownBy w' (some R) := by
  have C : Hid (∀ w' B, Below w.heap.size w w' → w'.cell? ⟨B, 0, none⟩ = some (idF R) → Calls Try.prog 96 #[.pointer (some ⟨R, 0, none⟩), .func (.func 97) #[] #[.pointer (some ⟨B, 0, none⟩)]] w' fun e w'' => ∃ vl, e = .returned vl ∧ RowN w'.heap.size w'' vl (tkL bs st).1 ∧ RS bs R v (tkL bs st).2 w'' ∧ w'.grownBy w'' (some R)) := fun w' B h1 h2 => takeL_at bs hb hl R B v st w' (h.below h1) h2
  clear h hb hl
  generalize tkL bs st = TT at *
  unfold idF at *
  go_enter Try.func71, Try.ntmps71
  go_wp2_with fail
  refine (C.out _ _ (below_alloc w _) ((Blk.new _ [_] w).cell 0 _ rfl)).mono ?_
  rintro e w1 ⟨vl, rfl, r1, s1, g1⟩
  have F : Hid (RowN w.heap.size w1 vl TT.1 ∧ RS bs R v TT.2 w1 ∧ w.grownBy w1 (some R)) := ⟨RowV.mono r1 (by simp), s1, grownBy_trans (grownBy_below (below_alloc w _) _) g1⟩
  clear r1 s1 g1
  go_wp2_with fail
  go_ret
  exact ⟨_, rfl, F.out⟩
end Go.Proofs.Ytdbjjeaflfoppaa
