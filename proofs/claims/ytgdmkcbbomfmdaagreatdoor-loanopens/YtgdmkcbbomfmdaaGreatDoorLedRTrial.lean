/-
  Ours: the document's Trial; the walk of LedgerTrials.
-/
import Derived.Test.YtgdmkcbbomfmdaaGreatDoorLedWide
import Derived.Deep.QuietTactic
import Derived.BigQuiet
import Derived.Test.YtgdmkcbbomfmdaaGreatDoorLedOwn
import Derived.Test.YtgdmkcbbomfmdaaGreatDoorLedNet
namespace Go.Proofs.YtgdmkcbbomfmdaaGreatDoor
open Go.RowKit

theorem high_any (x : Int) (w : World) :
    Calls Tryz.prog 98 #[.int .i64 x] w fun e w' => e = .returned (.int .i64 (x / 4294967296)) ∧ w' = w := by
  go_enter Tryz.func98, Tryz.ntmps98
  go_wp2
  go_ret
  exact ⟨rfl, rfl⟩
theorem lowOf_any (x : Int) (x0 : -9223372036854775808 ≤ x) (x1 : x ≤ 9223372036854775807) (w : World) :
    Calls Tryz.prog 99 #[.int .i64 x] w fun e w' => e = .returned (.int .i64 (x % 4294967296)) ∧ w' = w := by
  have e : x - x / 4294967296 * 4294967296 = x % 4294967296 := by omega
  have HH : Hid (∀ w, Calls Tryz.prog 98 #[.int .i64 x] w fun e w' => e = .returned (.int .i64 (x / 4294967296)) ∧ w' = w) := fun w => high_any x w
  go_enter Tryz.func99, Tryz.ntmps99
  go_wp2_with fail
  refine (HH.out _).mono ?_
  rintro e w1 ⟨rfl, hw⟩; rw [hw]; clear hw w1
  go_wp2_with fail
  go_ret
  exact ⟨rfl, rfl⟩
theorem joined_any (h l : Int) (h0 : -4611686018427387904 ≤ h) (h1 : h ≤ 4611686018427387904) (l0 : -4611686018427387904 ≤ l) (l1 : l ≤ 4611686018427387904) (w : World) :
    Calls Tryz.prog 100 #[.int .i64 h, .int .i64 l] w fun e w' => e = .returned (.tuple #[.int .i64 (smV (h * 4294967296 + l)), .bool (smOk (h * 4294967296 + l))]) ∧ w' = w := by
  by_cases c0 : h + l / 4294967296 < -2147483648
  · have e1 : smOk (h * 4294967296 + l) = false := by simp [smOk]; omega
    have e2 : smV (h * 4294967296 + l) = 0 := by simp [smV, e1]
    rw [e1, e2]
    clear e1 e2
    go_enter Tryz.func100, Tryz.ntmps100
    go_wp2
    go_ret2
    exact ⟨rfl, rfl⟩
  · have d0 : decide (h + l / 4294967296 < -2147483648) = false := decide_eq_false c0
    by_cases c1 : 2147483647 < h + l / 4294967296
    · have e1 : smOk (h * 4294967296 + l) = false := by simp [smOk]; omega
      have e2 : smV (h * 4294967296 + l) = 0 := by simp [smV, e1]
      rw [e1, e2]
      clear e1 e2
      go_enter Tryz.func100, Tryz.ntmps100
      go_wp2
      go_ret2
      exact ⟨rfl, rfl⟩
    · have e1 : smOk (h * 4294967296 + l) = true := by simp [smOk]; omega
      have e2 : smV (h * 4294967296 + l) = h * 4294967296 + l := by simp [smV, e1]
      rw [e1, e2]
      clear e1 e2
      go_enter Tryz.func100, Tryz.ntmps100
      go_wp2
      go_ret2
      exact ⟨ret_vk (by omega) rfl, rfl⟩

set_option maxHeartbeats 1000000 in
theorem rsum_any (xs : List Int) (g o cap : Nat) (w : World) (hx : I64 xs) (hl : xs.length ≤ 4194304)
    (hc : ∀ i, i < xs.length → w.cell? ⟨g, o + i, none⟩ = some (.int .i64 (xs.getD i 0))) :
    Calls Tryz.prog 56 #[.slice (some ⟨g, o, none⟩) xs.length cap] w fun e w' => e = .returned (.tuple #[.int .i64 (smV (total xs)), .bool (smOk (total xs))]) ∧ w' = w := by
  obtain ⟨L, hL⟩ : ∃ L, xs.length = L := ⟨_, rfl⟩
  rw [hL] at hl hc ⊢
  obtain ⟨V, HV⟩ : ∃ V, Hid (smV (total xs) = V) := ⟨_, rfl⟩
  obtain ⟨K, HK⟩ : ∃ K, Hid (smOk (total xs) = K) := ⟨_, rfl⟩
  rw [HV.out, HK.out]
  have HL : Hid (xs.length = L) := hL
  clear hL
  go_enter Tryz.func56, Tryz.ntmps56
  go_wp2
  go_loop [4, 5, 6] (fun hh ll ii => ∃ (k : Nat) (h l : Int), k ≤ L ∧ ii = .int .i64 (k : Int) ∧ hh = .int .i64 h ∧ ll = .int .i64 l ∧ h * 4294967296 + l = total (xs.take k) ∧ -(2147483648 * (k : Int)) ≤ h ∧ h ≤ 2147483648 * (k : Int) ∧ 0 ≤ l ∧ l ≤ 4294967296 * (k : Int)) (fun _ _ ii => L - (intOf ii).toNat)
  case atStart => exact ⟨0, 0, 0, by omega, rfl, rfl, rfl, by simp [total], by omega, by omega, by omega, by omega⟩
  case round =>
    obtain ⟨k, h, l, hk, rfl, rfl, rfl, hs, h0, h1, l0, l1⟩ := hrel
    by_cases hlt : (k : Int) < (L : Int)
    · have cx := hc k (by omega)
      have bx := hx k
      have ts := total_take_succ xs k (by rw [HL.out]; omega)
      generalize xs.getD k 0 = n at *
      have TS : Hid ((h + n / 4294967296) * 4294967296 + (l + n % 4294967296) = total (xs.take (k + 1))) := by
        show _ = _
        rw [ts, ← hs]; omega
      have HH : Hid (∀ w, Calls Tryz.prog 98 #[.int .i64 n] w fun e w' => e = .returned (.int .i64 (n / 4294967296)) ∧ w' = w) := fun w => high_any n w
      have LL : Hid (∀ w, Calls Tryz.prog 99 #[.int .i64 n] w fun e w' => e = .returned (.int .i64 (n % 4294967296)) ∧ w' = w) := fun w => lowOf_any n bx.1 bx.2 w
      obtain ⟨bx0, bx1⟩ := bx
      clear ts hs hc
      go_wp2_with fail
      refine (HH.out _).mono ?_
      rintro e w1 ⟨rfl, hw⟩; rw [hw]; clear hw w1
      go_wp2_with fail
      refine (LL.out _).mono ?_
      rintro e w1 ⟨rfl, hw⟩; rw [hw]; clear hw w1
      go_wp2_with fail
      go_round
      case rel => exact ⟨k + 1, _, _, by omega, by go_num, rfl, rfl, TS.out, by omega, by omega, by omega, by omega⟩
      case measure => simp [intOf]; omega
    · obtain rfl : k = L := by omega
      rw [List.take_of_length_le (by rw [HL.out]; omega)] at hs
      have J : Hid (∀ w, Calls Tryz.prog 100 #[.int .i64 h, .int .i64 l] w fun e w' => e = .returned (.tuple #[.int .i64 V, .bool K]) ∧ w' = w) := fun w => by
        have := joined_any h l (by omega) (by omega) (by omega) (by omega) w
        rw [hs, HV.out, HK.out] at this; exact this
      clear hs hc
      go_wp2_with fail
      refine (J.out _).mono ?_
      rintro e w1 ⟨rfl, hw⟩; rw [hw]; clear hw w1
      go_wp2_with fail
      go_ret2
      exact ⟨rfl, rfl⟩

theorem rsum_empty (a : Option Addr) (cap : Nat) (w : World) :
    Calls Tryz.prog 56 #[.slice a 0 cap] w fun e w' => e = .returned (.tuple #[.int .i64 (smV (total [])), .bool (smOk (total []))]) ∧ w' = w := by
  have J : Hid (∀ w, Calls Tryz.prog 100 #[.int .i64 0, .int .i64 0] w fun e w' => e = .returned (.tuple #[.int .i64 0, .bool true]) ∧ w' = w) := fun w => (joined_any 0 0 (by omega) (by omega) (by omega) (by omega) w).mono fun e w' ⟨he, hw⟩ => ⟨by rw [he]; exact ret_vk (by decide) (by decide), hw⟩
  have e1 : smV (total []) = 0 := by decide
  have e2 : smOk (total []) = true := by decide
  rw [e1, e2]
  go_enter Tryz.func56, Tryz.ntmps56
  go_wp2
  go_loop [4, 5, 6] (fun hh ll ii => hh = .int .i64 0 ∧ ll = .int .i64 0 ∧ ii = .int .i64 0) (fun _ _ _ => 0)
  case atStart => exact ⟨rfl, rfl, rfl⟩
  case round =>
    obtain ⟨rfl, rfl, rfl⟩ := hrel
    go_wp2_with fail
    refine (J.out _).mono ?_
    rintro e w1 ⟨rfl, hw⟩; rw [hw]; clear hw w1
    go_wp2_with fail
    go_ret2
    exact ⟨rfl, rfl⟩

theorem rsum_reads {w : World} {v : Value} {xs : List Int} (h : Reads w v xs) (hx : I64 xs) (hl : xs.length ≤ 4194304) :
    Calls Tryz.prog 56 #[v] w fun e w' => e = .returned (.tuple #[.int .i64 (smV (total xs)), .bool (smOk (total xs))]) ∧ w' = w := by
  rcases h with ⟨rfl, a, cap, rfl⟩ | ⟨_, g, o, cap, rfl, _, _, cell⟩
  · exact rsum_empty a cap w
  · exact rsum_any xs g o cap w hx hl cell

end Go.Proofs.YtgdmkcbbomfmdaaGreatDoor

namespace Go.Proofs.YtgdmkcbbomfmdaaGreatDoor
open Go.RowKit

/-- The new row lies where the old one lay, or in a new block. -/
def Near (w : World) (v v' : Value) : Prop := ∀ g, v'.ownBlock = some g → v.ownBlock = some g ∨ w.heap.size ≤ g
theorem Near.refl (w : World) (v : Value) : Near w v v := fun _ h => .inl h

theorem wpList_appN {P : Program} (wr : World) {ops : Array Oper} {rest : List Oper} {o : Oper} {a : Act} {Q : Exit → Act → World → Prop} (hgd : o.guard = none) (s x : Operand) (t : TypeId)
    (ho : o.op = .call { callee := .builtin .append, args := #[s, x], argTypes := #[t, t] })
    (e : TypeId) (i : TypeInfo) (z : Value) (by' : Nat) (ht : P.underlying t = some (.slice e)) (hi : P.info? e = some i) (hz : i.zero = some z) (hsize : i.size = 1) (hby : i.bytes = by') (hzc : z.cells.size = 1)
    (base : Nat) (v : Value) (vs us : List Value) (hy : ∀ u ∈ us, u.oneCell' = true) (hs : a.eval s = v) (hown : RowV e base wr v vs) (hsz : base ≤ wr.heap.size)
    (ad : Addr) (c : Nat) (hx : a.eval x = .slice (some ad) us.length c) (hc : ∀ j u, us[j]? = some u → wr.cell? (ad.add j) = some u) (hl : vs.length + us.length ≤ maxLen) (hl2 : (vs.length + us.length) * by' ≤ 140737488355328)
    (h : ∀ v' w', RowV e base w' v' (vs ++ us) → wr.grownBy w' v.ownBlock → Near wr v v' → wpList P ops Q rest (a.put o.dst v') w') :
    wpList P ops Q (o :: rest) a wr := by
  have fresh : ∀ v' w', w'.ownsRow wr.heap.size e 1 v' (vs.length + us.length) (vs ++ us) → wr.grownBy w' none → wpList P ops Q rest (a.put o.dst v') w' := by
    intro v' w' r1 gr
    have r2 : RowV e wr.heap.size w' v' (vs ++ us) := by simpa [RowV] using r1
    exact h v' w' (r2.mono hsz) (grownBy_none gr _) fun g hg => .inr (r2.block_ge hg)
  rcases hown.2 with ⟨rfl, h0⟩ | ⟨g, cap, cur, rfl, hb, hg, hn, hm, hcs, htk⟩
  · have x0 : vs = [] := List.eq_nil_of_length_eq_zero h0
    subst x0
    by_cases u0 : us.length = 0
    · obtain rfl : us = [] := List.eq_nil_of_length_eq_zero u0
      refine wpList_append_own _ hgd s x t ho base e i z 1 by' ht hi hz hsize hby hzc (by decide) (.slice none 0 0) 0 [] hs (World.ownsRow_nil _ _ _ _) ad 0 c [] hx (by simp) (by simp) (by simp) (by simp) (by simp) hsz ?_
      intro v' w' r1 gr hnil
      have : v' = .slice none 0 0 := hnil.2 ⟨rfl, rfl⟩
      subst this
      exact h _ w' (by simpa [RowV] using r1) gr (Near.refl _ _)
    · exact wpList_append_grows _ hgd s x t ho e i z 1 by' ht hi hz hsize hby hzc (by decide) none 0 0 [] hs (fun _ => ⟨rfl, rfl⟩) rfl (fun b hb => by cases hb) ad us.length c us hx (by simp) hc hy (by omega) (by simpa using hl) (by simpa using hl2) (by simpa using fresh)
  · by_cases hr : vs.length + us.length ≤ cap
    · refine wpList_append_fits _ hgd s x t ho base e i 1 ht hi hsize g vs.length cap vs hs hown ad us.length c us hx (by simp) hc hy hr fun w' r1 gr => ?_
      refine h _ w' (by simpa [RowV] using r1) gr fun g' h1 => .inl ?_
      exact h1
    · refine wpList_append_grows _ hgd s x t ho e i z 1 by' ht hi hz hsize hby hzc (by decide) (some ⟨g, 0, none⟩) vs.length cap vs hs (fun h => by cases h) (by simp) (fun b hb => ?_) ad us.length c us hx (by simp) hc hy (by omega) hl hl2 fresh
      cases hb
      exact fun j u hj => World.ownsRow.cells hown rfl j u hj

theorem wpList_pushN {P : Program} {wr : World} {ops : Array Oper} {rest : List Oper} {o : Oper} {a : Act} {Q : Exit → Act → World → Prop} (hgd : o.guard = none) (s x : Operand) (t : TypeId)
    (ho : o.op = .call { callee := .builtin .append, args := #[s, x], argTypes := #[t, t] })
    (e : TypeId) (i : TypeInfo) (z : Value) (by' : Nat) (ht : P.underlying t = some (.slice e)) (hi : P.info? e = some i) (hz : i.zero = some z) (hsize : i.size = 1) (hby : i.bytes = by') (hzc : z.cells.size = 1)
    (base : Nat) (v : Value) (vs : List Value) (y : Value) (hy : y.oneCell' = true) (hs : a.eval s = v) (hown : RowV e base wr v vs) (hsz : base ≤ wr.heap.size)
    (hx : a.eval x = .slice (some ⟨wr.heap.size, 0, none⟩) 1 1) (hl : vs.length + 1 ≤ maxLen) (hl2 : (vs.length + 1) * by' ≤ 140737488355328)
    (h : ∀ v' w', RowV e base w' v' (vs ++ [y]) → wr.grownBy w' v.ownBlock → Near wr v v' → wpList P ops Q rest (a.put o.dst v') w') :
    wpList P ops Q (o :: rest) a (wr.alloc (.cells #[y] e)) := by
  refine wpList_appN _ hgd s x t ho e i z by' ht hi hz hsize hby hzc base v vs [y] (fun u hu => by simp at hu; subst hu; exact hy) hs (World.ownsRow.alloc hown _) (by simp; omega) ⟨wr.heap.size, 0, none⟩ 1 hx ?_ hl hl2 ?_
  · intro j u hj
    match j, hj with
    | 0, hj => simp at hj; subst hj; simp [Addr.add]
  · intro v' w' r1 gr nr
    refine h v' w' r1 ⟨gr.os, gr.tape, gr.output, Nat.le_trans (by simp) gr.size, fun k hk hn => ?_⟩ fun g hg => ?_
    · rw [gr.block k (by simp; omega) hn]
      exact (below_alloc wr (.cells #[y] e)).block k hk
    · rcases nr g hg with h1 | h1
      · exact .inl h1
      · simp at h1; exact .inr (by omega)
end Go.Proofs.YtgdmkcbbomfmdaaGreatDoor

namespace Go.Proofs.YtgdmkcbbomfmdaaGreatDoor
open Go.RowKit

namespace LedM
def ups (l : List Int) : List Int := l.filter fun x => decide (0 < x)
def dns (l : List Int) : List Int := l.filter fun x => !decide (0 < x)
def trD (l : List Int) : Int := total (ups l)
def trC (l : List Int) : Int := -total (dns l)
def trOk (l : List Int) : Bool := smOk (trD l) && smOk (trC l)
def trV (l : List Int) : Value := .tuple #[.int .i64 (if trOk l then trD l else 0), .int .i64 (if trOk l then trC l else 0), .bool (trOk l)]
theorem take_succ (l : List Int) (k : Nat) (h : k < l.length) : l.take (k + 1) = l.take k ++ [l.getD k 0] := by
  rw [List.take_add_one, List.getElem?_eq_getElem h]; simp [List.getD_eq_getElem?_getD, List.getElem?_eq_getElem h]
theorem ups_yes {l : List Int} {k : Nat} (h : k < l.length) (hx : 0 < l.getD k 0) : ups (l.take (k + 1)) = ups (l.take k) ++ [l.getD k 0] ∧ dns (l.take (k + 1)) = dns (l.take k) := by
  rw [take_succ l k h]
  generalize l.getD k 0 = x at *
  simp [ups, dns, hx]
theorem ups_no {l : List Int} {k : Nat} (h : k < l.length) (hx : ¬ 0 < l.getD k 0) : ups (l.take (k + 1)) = ups (l.take k) ∧ dns (l.take (k + 1)) = dns (l.take k) ++ [l.getD k 0] := by
  rw [take_succ l k h]
  generalize l.getD k 0 = x at *
  simp [ups, dns, hx]
theorem total_nonneg : ∀ {l : List Int}, (∀ x ∈ l, 0 ≤ x) → 0 ≤ total l
  | [], _ => by simp [total]
  | x :: r, h => by
    have := total_nonneg (l := r) (fun y hy => h y (by simp [hy]))
    have := h x (by simp)
    simp only [total]; omega
theorem total_nonpos : ∀ {l : List Int}, (∀ x ∈ l, x ≤ 0) → total l ≤ 0
  | [], _ => by simp [total]
  | x :: r, h => by
    have := total_nonpos (l := r) (fun y hy => h y (by simp [hy]))
    have := h x (by simp)
    simp only [total]; omega
theorem trD_pos (l : List Int) : 0 ≤ trD l := total_nonneg fun x hx => by
  have := (List.mem_filter.1 hx).2
  simp at this; omega
theorem trC_pos (l : List Int) : 0 ≤ trC l := by
  have := total_nonpos (l := dns l) fun x hx => by
    have := (List.mem_filter.1 hx).2
    simp at this; omega
  unfold trC; omega
theorem getD_mem {l : List Int} (k : Nat) (hk : k < l.length) : l.getD k 0 ∈ l := by
  rw [List.getD_eq_getElem?_getD, List.getElem?_eq_getElem hk]; exact List.getElem_mem hk
theorem i64_all {l : List Int} (h : ∀ k, i64 (l.getD k 0)) : ∀ x ∈ l, i64 x := fun x hx => by
  obtain ⟨k, hk, e⟩ := List.getElem_of_mem hx
  have := h k
  rw [List.getD_eq_getElem?_getD, List.getElem?_eq_getElem hk, Option.getD_some, e] at this
  exact this
theorem i64_filter {l : List Int} (p : Int → Bool) (h : ∀ k, i64 (l.getD k 0)) : I64 (l.filter p) := fun k => by
  by_cases hk : k < (l.filter p).length
  · exact i64_all h _ (List.mem_filter.1 (getD_mem k hk)).1
  · rw [List.getD_eq_getElem?_getD, List.getElem?_eq_none (by omega)]; exact ⟨by simp, by simp⟩
theorem total_le {l : List Int} (h : I64 l) : -(9223372036854775808 * (l.length : Int)) ≤ total l ∧ total l ≤ 9223372036854775808 * (l.length : Int) := by
  have := total_bound h l.length (Nat.le_refl _)
  rwa [List.take_length] at this
end LedM
end Go.Proofs.YtgdmkcbbomfmdaaGreatDoor

namespace Go.Proofs.YtgdmkcbbomfmdaaGreatDoor
open Go.RowKit LedM

end Go.Proofs.YtgdmkcbbomfmdaaGreatDoor

namespace Go.Proofs.YtgdmkcbbomfmdaaGreatDoor
open Go.RowKit LedM

theorem infoL : (Tryz.prog.info? 2).map (fun i => (i.zero, i.size, i.bytes)) = some (some (.int .i64 0), 1, 8) := by kernel_rfl
theorem RowV.row {e : TypeId} {base : Nat} {w : World} {v : Value} {xs : List Int} (h : RowV e base w v (bkL xs)) : Row e base w v xs := by
  unfold RowV at h
  rw [bkL_len] at h
  exact h
theorem rsum_row {e : TypeId} {base : Nat} {w : World} {v : Value} {xs : List Int} (h : RowV e base w v (bkL xs)) (hx : I64 xs) (hl : xs.length ≤ 4194304) :
    Calls Tryz.prog 56 #[v] w fun e w' => e = .returned (.tuple #[.int .i64 (smV (total xs)), .bool (smOk (total xs))]) ∧ w' = w := rsum_reads h.row.reads hx hl
theorem bkL_push (xs : List Int) (x : Int) : bkL (xs ++ [x]) = bkL xs ++ [.int .i64 x] := by simp [bkL]

namespace LedM
theorem rtr_ok (l : List Int) : (smOk (trD l) && (smOk (total (dns l)) && !(smV (total (dns l)) == -9223372036854775808))) = trOk l := by
  have := trC_pos l
  unfold trOk
  congr 1
  have e : trC l = -total (dns l) := rfl
  generalize trC l = c at *
  rw [show total (dns l) = -c from by omega]
  clear e
  unfold smV smOk
  by_cases h : -9223372036854775808 ≤ c ∧ c ≤ 9223372036854775807
  · rw [decide_eq_true h, decide_eq_true (p := -9223372036854775808 ≤ -c ∧ -c ≤ 9223372036854775807) (by omega)]
    simp; omega
  · rw [decide_eq_false h]
    by_cases h2 : -9223372036854775808 ≤ -c ∧ -c ≤ 9223372036854775807
    · rw [decide_eq_true h2]; simp; omega
    · rw [decide_eq_false h2]; simp
theorem rtr_val (l : List Int) (h : trOk l = true) : smV (trD l) = trD l ∧ wrap64 (-smV (total (dns l))) = trC l := by
  have e := rtr_ok l
  rw [h] at e
  simp only [Bool.and_eq_true] at e
  refine ⟨by unfold smV; rw [e.1]; rfl, ?_⟩
  have : smV (total (dns l)) = total (dns l) := by unfold smV; rw [e.2.1]; rfl
  rw [this]
  have k : smOk (trC l) = true := by unfold trOk at h; simp only [Bool.and_eq_true] at h; exact h.2
  have k2 : -9223372036854775808 ≤ trC l ∧ trC l ≤ 9223372036854775807 := of_decide_eq_true k
  show wrap64 (trC l) = trC l
  unfold wrap64; omega
end LedM

end Go.Proofs.YtgdmkcbbomfmdaaGreatDoor
