/-
  Ours: notices as data, their letters; letters are one to one; what a guess at a text says.
-/
import Derived.Test.YtpkgdkgbbbbaoaaDoorRpGo
namespace Go.Proofs.YtpkgdkgbbbbaoaaDoor
open Go.RowKit Go.Lib CalM RpM
namespace RpM
structure Nt where
  id : Int
  loan : Int
  kind : Int
  day : Int
  amt : Int
  ack : Bool
def Nt.zero : Nt := ⟨0, 0, 0, 0, 0, false⟩
def i64 (x : Int) : Prop := -9223372036854775808 ≤ x ∧ x ≤ 9223372036854775807
structure Nt.Ok (n : Nt) : Prop where
  id : i64 n.id
  loan : i64 n.loan
  kind : i64 n.kind
  day : i64 n.day
  amt : i64 n.amt
/-- A notice that has a letter. -/
def may (n : Nt) : Prop := 1 ≤ n.id ∧ 1 ≤ n.loan ∧ 1 ≤ n.kind ∧ n.kind ≤ 9 ∧ 1 ≤ n.day ∧ n.day ≤ 3652059 ∧ 0 ≤ n.amt
instance (n : Nt) : Decidable (may n) := by unfold may; infer_instance

theorem dg_nat (n : Nat) : (dg n).toNat = 48 + n % 10 := by
  unfold dg; rw [UInt8.toNat_ofNat']; omega
theorem digOk_pad2 (n : Nat) : digOk (pad2 n) = true := by
  have a := dg_nat n; have b := dg_nat (n / 10)
  simp only [digOk, pad2, List.all_cons, List.all_nil, Bool.and_true, Bool.and_eq_true, decide_eq_true_eq]; omega
theorem digOk_pad4 (n : Nat) : digOk (pad4 n) = true := by
  have a := dg_nat n; have b := dg_nat (n / 10); have c := dg_nat (n / 100); have d := dg_nat (n / 1000)
  simp only [digOk, pad4, List.all_cons, List.all_nil, Bool.and_true, Bool.and_eq_true, decide_eq_true_eq]; omega
theorem digV_pad2 (n : Nat) (h : n < 100) : digV (pad2 n) = n := by
  have a := dg_nat n; have b := dg_nat (n / 10)
  simp only [digV, pad2, List.foldl_cons, List.foldl_nil, a, b]; omega
theorem digV_pad4 (n : Nat) (h : n < 10000) : digV (pad4 n) = n := by
  have a := dg_nat n; have b := dg_nat (n / 10); have c := dg_nat (n / 100); have d := dg_nat (n / 1000)
  simp only [digV, pad4, List.foldl_cons, List.foldl_nil, a, b, c, d]; omega
theorem parse_date (y m k : Nat) (h : CalM.Ok y m k) : parseO (dateT y m k) = some (dA y m + k) := by
  have l := len_high y m
  obtain ⟨y1, y2, m1, m2, k1, k2⟩ := h
  show parseO [dg (y / 1000), dg (y / 100), dg (y / 10), dg y, 45, dg (m / 10), dg m, 45, dg (k / 10), dg k] = _
  have e1 : digV [dg (y / 1000), dg (y / 100), dg (y / 10), dg y] = y := digV_pad4 y (by omega)
  have e2 : digV [dg (m / 10), dg m] = m := digV_pad2 m (by omega)
  have e3 : digV [dg (k / 10), dg k] = k := digV_pad2 k (by omega)
  rw [parseO_ten, if_pos]
  · rw [e1, e2, e3]
  · rw [e1, e2, e3]
    exact ⟨rfl, rfl, digOk_pad4 y, digOk_pad2 m, digOk_pad2 k, y1, y2, m1, m2, k1, k2⟩
theorem cl_dg (n : Nat) : isCl (dg n) = true := by
  have := dg_nat n
  unfold isCl
  rw [decide_eq_true (by omega)]
  rfl
theorem clean_date (y m k : Nat) : clean (dateT y m k) := by
  unfold clean dateT pad4 pad2
  simp only [List.cons_append, List.nil_append, List.all_cons, List.all_nil, cl_dg, Bool.true_and, Bool.and_true]
  decide
theorem date_ex (d : Int) (h1 : 1 ≤ d) (h2 : d ≤ 3652059) : ∃ l : List UInt8, ∃ y m k : Nat, CalM.Ok y m k ∧ dA y m + k = d ∧ l = dateT y m k := by
  obtain ⟨y0, m0, k0, ok0, ed0⟩ := civil_exists d h1 h2
  obtain ⟨y, m, k, rfl, rfl, rfl⟩ : ∃ Y M K : Nat, y0 = Y ∧ m0 = M ∧ k0 = K := by
    obtain ⟨y1, y2, m1, m2, k1, k2⟩ := ok0
    exact ⟨y0.toNat, m0.toNat, k0.toNat, by omega, by omega, by omega⟩
  exact ⟨_, y, m, k, ok0, ed0, rfl⟩
/-- A day's text. -/
noncomputable def dateL (d : Int) : List UInt8 := if h : 1 ≤ d ∧ d ≤ 3652059 then Classical.choose (date_ex d h.1 h.2) else []
theorem dateL_is {d : Int} (h1 : 1 ≤ d) (h2 : d ≤ 3652059) : ∃ y m k : Nat, CalM.Ok y m k ∧ dA y m + k = d ∧ dateL d = dateT y m k := by
  unfold dateL
  rw [dif_pos ⟨h1, h2⟩]
  exact Classical.choose_spec (date_ex d h1 h2)
theorem dateL_clean {d : Int} (h1 : 1 ≤ d) (h2 : d ≤ 3652059) : clean (dateL d) := by
  obtain ⟨y, m, k, _, _, e⟩ := dateL_is h1 h2
  rw [e]
  exact clean_date y m k
theorem dateL_parse {d : Int} (h1 : 1 ≤ d) (h2 : d ≤ 3652059) : parseO (dateL d) = some d := by
  obtain ⟨y, m, k, ok, e1, e⟩ := dateL_is h1 h2
  rw [e, parse_date y m k ok, e1]
theorem dateL_len {d : Int} (h1 : 1 ≤ d) (h2 : d ≤ 3652059) : (dateL d).length = 10 := by
  obtain ⟨y, m, k, _, _, e⟩ := dateL_is h1 h2
  rw [e]
  rfl
theorem dec_len (n : Nat) (h : n ≤ 9223372036854775808) : (decDigits n).length ≤ 19 := by
  rw [decDigits_length]
  exact nDigits_le 18 n (by rw [show 10 ^ (18 + 1) = 10000000000000000000 by decide]; omega)
theorem amt_len (n : Nat) (h : n ≤ 9223372036854775808) : (amtL n).length ≤ 22 := by
  unfold amtL
  have := dec_len (n / 100) (by omega)
  simp
  omega
/-- A notice's letter. -/
noncomputable def letN (n : Nt) : List UInt8 := letT n.kind.toNat (decDigits n.id.toNat) (dateL n.day) (decDigits n.loan.toNat) (amtL n.amt.natAbs)
theorem fmt_amt {x : Int} (h : 0 ≤ x) : fmtL x = amtL x.natAbs := by unfold fmtL; rw [if_neg (by omega)]
theorem letN_len {n : Nt} (h : may n) (o : n.Ok) : (letN n).length ≤ 200 := by
  obtain ⟨h1, h2, h3, h4, h5, h6, h7⟩ := h
  obtain ⟨⟨_, o1⟩, ⟨_, o2⟩, _, _, ⟨_, o5⟩⟩ := o
  have a := dec_len n.id.toNat (by omega)
  have b := dec_len n.loan.toNat (by omega)
  have c := amt_len n.amt.natAbs (by omega)
  have d := dateL_len h5 h6
  have hw : (wrd n.kind.toNat).a.length + (wrd n.kind.toNat).b.length + (wrd n.kind.toNat).c.length ≤ 90 := by
    unfold wrd
    split <;> decide
  unfold letN letT lay
  cases (wrd n.kind.toNat).f <;> simp [notB, ofB, colB] <;> omega
/-- What a guess at a text says of this kind. -/
structure Gu (k : Nat) (l : List UInt8) (n : Nt) : Prop where
  kind : n.kind = (k : Int)
  ack : n.ack = false
  ok : n.Ok
  id : ∀ v, atoiAll (parts k l).id = .ok v → n.id = v
  loan : ∀ v, atoiAll (parts k l).num = .ok v → n.loan = v
  day : n.day = optZ (parseO (parts k l).date)
  amt : ∃ b, PrOk (parts k l).amt (n.amt, b)
theorem gu_let {k : Nat} {m n : Nt} (hm : may m) (om : m.Ok) (hk : m.kind = (k : Int)) (g : Gu k (letN m) n) : n = { m with ack := false } := by
  obtain ⟨h1, h2, h3, h4, h5, h6, h7⟩ := hm
  obtain ⟨⟨_, o1⟩, ⟨_, o2⟩, _, _, ⟨_, o5⟩⟩ := om
  have hp : parts k (letN m) = ⟨decDigits m.id.toNat, dateL m.day, decDigits m.loan.toNat, amtL m.amt.natAbs⟩ := by
    have e : m.kind.toNat = k := by omega
    unfold letN
    rw [e]
    exact parts_let k (by omega) (by omega) _ _ _ _ (clean_dec _) (dateL_clean h5 h6) (clean_dec _) (clean_amt _)
  have g1 := g.id (m.id.toNat : Int) (by rw [hp]; exact atoi_dec _ (by omega))
  have g2 := g.loan (m.loan.toNat : Int) (by rw [hp]; exact atoi_dec _ (by omega))
  have g3 := g.day
  rw [hp] at g3
  simp only [dateL_parse h5 h6, optZ] at g3
  obtain ⟨b, g4⟩ := g.amt
  rw [hp] at g4
  simp only [← fmt_amt h7] at g4
  have g5 : n.amt = m.amt := by
    cases b with
    | true =>
      obtain ⟨e, k0, k1⟩ := g4.1 rfl
      exact fmt_inj k0 k1 (by omega) o5 e
    | false => exact absurd rfl ((g4.2 rfl).2 m.amt (by omega) o5)
  have gk := g.kind
  have ga := g.ack
  cases n
  cases m
  simp only [Nt.mk.injEq] at *
  exact ⟨by omega, by omega, by omega, by omega, g5, ga⟩
theorem letN_inj {m n : Nt} (hm : may m) (om : m.Ok) (hn : may n) (on : n.Ok) (h : letN m = letN n) : n = { m with ack := n.ack } := by
  have hm' := hm
  have hn' := hn
  obtain ⟨h1, h2, h3, h4, h5, h6, h7⟩ := hm'
  obtain ⟨k1, k2, k3, k4, k5, k6, k7⟩ := hn'
  obtain ⟨⟨_, o1⟩, ⟨_, o2⟩, _, _, ⟨_, o5⟩⟩ := om
  obtain ⟨⟨_, p1⟩, ⟨_, p2⟩, _, _, ⟨_, p5⟩⟩ := on
  obtain ⟨e1, e2, e3, e4, e5⟩ := letT_inj (by omega) (by omega) (by omega) (by omega) (clean_dec _) (dateL_clean h5 h6) (clean_dec _) (clean_amt _) (clean_dec _) (dateL_clean k5 k6) (clean_dec _) (clean_amt _) h
  have f2 := atoi_dec m.id.toNat (by omega)
  rw [e2, atoi_dec _ (by omega)] at f2
  injection f2 with f2
  have f4 := atoi_dec m.loan.toNat (by omega)
  rw [e4, atoi_dec _ (by omega)] at f4
  injection f4 with f4
  have f3 := dateL_parse h5 h6
  rw [e3, dateL_parse k5 k6] at f3
  injection f3 with f3
  have f5 : n.amt = m.amt := by
    rw [← fmt_amt h7, ← fmt_amt k7] at e5
    exact (fmt_inj (by omega) o5 (by omega) p5 e5).symm
  cases n
  cases m
  simp only [Nt.mk.injEq] at *
  exact ⟨by omega, by omega, by omega, f3, f5, trivial⟩
/-- What a reader of letters answers: the notice of the text, or that the text is no letter. -/
structure RdL (l : List UInt8) (n : Nt) (b : Bool) : Prop where
  yes : b = true → may n ∧ n.Ok ∧ n.ack = false ∧ letN n = l
  no : b = false → n = Nt.zero ∧ ∀ m, may m → m.Ok → letN m ≠ l
theorem RdL.uniq {l : List UInt8} {n m : Nt} {b c : Bool} (h : RdL l n b) (g : RdL l m c) : n = m ∧ b = c := by
  cases b with
  | true =>
    obtain ⟨h1, h2, h3, h4⟩ := h.yes rfl
    cases c with
    | true =>
      obtain ⟨g1, g2, g3, g4⟩ := g.yes rfl
      have := letN_inj h1 h2 g1 g2 (h4.trans g4.symm)
      refine ⟨?_, rfl⟩
      rw [this, g3, ← h3]
    | false => exact absurd h4 ((g.no rfl).2 n h1 h2)
  | false =>
    cases c with
    | true =>
      obtain ⟨g1, g2, g3, g4⟩ := g.yes rfl
      exact absurd g4 ((h.no rfl).2 m g1 g2)
    | false => exact ⟨(h.no rfl).1.trans (g.no rfl).1.symm, rfl⟩
end RpM
abbrev ntC (n : RpM.Nt) : Array Value := #[.int .i64 n.id, .int .i64 n.loan, .int .i64 n.kind, .int .i64 n.day, .int .i64 n.amt, .bool n.ack]
abbrev ntV (n : RpM.Nt) : Value := .agg (ntC n)
end Go.Proofs.YtpkgdkgbbbbaoaaDoor
