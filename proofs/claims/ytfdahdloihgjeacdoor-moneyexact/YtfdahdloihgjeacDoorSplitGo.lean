/-
  Ours: the contracts of money.addWeights, money.Split.
-/
import Derived.Test.YtfdahdloihgjeacDoorGreat
import Derived.Test.YtfdahdloihgjeacDoorSplitMath
import Derived.Test.YtfdahdloihgjeacDoorSum
import Derived.Test.YtfdahdloihgjeacDoorCalc
namespace Go.Proofs.YtfdahdloihgjeacDoor
open Go.RowKit Stable Spl

/-- The row g holds the numbers F. -/
def IC (g n : Nat) (w : World) (F : Nat → Int) : Prop :=
  ∃ cur : Array Value, w.heap[g]? = some (.cells cur 2 (0, 0)) ∧ n ≤ cur.size ∧ ∀ i, i < n → cur[i]? = some (.int .i64 (F i))
theorem IC.lt {g n : Nat} {w : World} {F : Nat → Int} (h : IC g n w F) : g < w.heap.size := by
  obtain ⟨cur, hg, _⟩ := h; exact (Array.getElem?_eq_some_iff.1 hg).1
theorem IC.cell {g n : Nat} {w : World} {F : Nat → Int} (h : IC g n w F) {i : Nat} (hi : i < n) : w.cell? ⟨g, i, none⟩ = some (.int .i64 (F i)) := by
  obtain ⟨cur, hg, _, hc⟩ := h
  rw [cell_of_row w g i cur _ (0, 0) hg]; exact hc i hi
theorem IC.frozen {g n : Nat} {w : World} {F : Nat → Int} (h : IC g n w F) (i : Nat) : w.frozen? ⟨g, i, none⟩ = false := by
  obtain ⟨cur, hg, _⟩ := h
  simp [World.frozen?, hg]
theorem IC.set {g n : Nat} {w : World} {F : Nat → Int} (h : IC g n w F) {i : Nat} (hi : i < n) (x : Int) : IC g n (w.setCell ⟨g, i, none⟩ (.int .i64 x)) (fun k => if k = i then x else F k) := by
  obtain ⟨cur, hg, hn, hc⟩ := h
  refine ⟨cur.setIfInBounds i (.int .i64 x), heap_setCell_same w g i cur _ _ hg, by simpa using hn, fun k hk => ?_⟩
  show _ = some (Value.int .i64 (if k = i then x else F k))
  by_cases e : k = i
  · subst e; rw [if_pos rfl, Array.getElem?_setIfInBounds_self_of_lt (by omega)]
  · rw [if_neg e, Array.getElem?_setIfInBounds_ne (by omega)]; exact hc k hk
theorem IC.congr {g n : Nat} {w : World} {F F' : Nat → Int} (h : IC g n w F) (e : ∀ i, i < n → F' i = F i) : IC g n w F' := by
  obtain ⟨cur, hg, hn, hc⟩ := h
  exact ⟨cur, hg, hn, fun i hi => by rw [e i hi]; exact hc i hi⟩
theorem IC.other {g n : Nat} {w w' : World} {F : Nat → Int} (h : IC g n w F) (e : w'.heap[g]? = w.heap[g]?) : IC g n w' F := by
  obtain ⟨cur, hg, hn, hc⟩ := h
  exact ⟨cur, e.trans hg, hn, hc⟩
theorem ic_of_own {base g n cap : Nat} {w : World} {xs : List Value} {F : Nat → Int} (h : w.ownsRow base 2 1 (.slice (some ⟨g, 0, none⟩) n cap) n xs) (hx : ∀ i, i < n → xs[i]? = some (.int .i64 (F i))) : IC g n w F := by
  rcases h.2 with ⟨h', _⟩ | ⟨g', cap', cur, h', hb, hg, hnc, hcm, hcs, htake⟩
  · simp at h'
  · simp only [Value.slice.injEq, Option.some.injEq, Addr.mk.injEq, and_true, true_and] at h'
    obtain ⟨rfl, rfl⟩ := h'
    refine ⟨cur, hg, by omega, fun i hi => ?_⟩
    have := hx i hi
    rw [← htake, List.getElem?_take, if_pos (by omega)] at this
    simpa using this

/-- The list of the first n values. -/
def lst (F : Nat → Int) (n : Nat) : List Int := (List.range n).map F
theorem lst_length (F : Nat → Int) (n : Nat) : (lst F n).length = n := by simp [lst]
theorem lst_get (F : Nat → Int) {n i : Nat} (h : i < n) : (lst F n).getD i 0 = F i := by
  simp [lst, List.getD_eq_getElem?_getD, List.getElem?_map, List.getElem?_range h]
theorem IC.reads {g n cap : Nat} {w : World} {F : Nat → Int} (h : IC g n w F) (hn : 0 < n) (hc : n ≤ cap) : Reads w (.slice (some ⟨g, 0, none⟩) n cap) (lst F n) := by
  refine .inr ⟨by rw [lst_length]; exact hn, g, 0, cap, by rw [lst_length], by rw [lst_length]; exact hc, h.lt, fun i hi => ?_⟩
  rw [lst_length] at hi
  rw [lst_get F hi, Nat.zero_add]; exact h.cell hi

/-- May money.Split divide by these weights? -/
def adOk (ws : List Int) : Bool := decide (ws.length ≤ 1000 ∧ (∀ i, i < ws.length → 0 ≤ ws.getD i 0) ∧ smOk (total ws) = true ∧ total ws ≠ 0)
def adV (ws : List Int) : Int := if adOk ws then total ws else 0

theorem adOk_no {ws : List Int} (h : ¬ (ws.length ≤ 1000 ∧ (∀ i, i < ws.length → 0 ≤ ws.getD i 0) ∧ smOk (total ws) = true ∧ total ws ≠ 0)) : adOk ws = false ∧ adV ws = 0 := by
  have e : adOk ws = false := decide_eq_false h
  exact ⟨e, by simp [adV, e]⟩

set_option maxHeartbeats 1000000 in
theorem addW_full (ws : List Int) (g o cap : Nat) (w : World) (hx : I64 ws) (hl : ws.length ≤ 1048576) (hg : 0 < ws.length)
    (hc : ∀ i, i < ws.length → w.cell? ⟨g, o + i, none⟩ = some (.int .i64 (ws.getD i 0))) :
    Calls Tryd.prog 43 #[.slice (some ⟨g, o, none⟩) ws.length cap] w fun e w' => e = .returned (.tuple #[.int .i64 (adV ws), .bool (adOk ws)]) ∧ w' = w := by
  have SM : Hid (∀ w', w' = w → Calls Tryd.prog 31 #[.slice (some ⟨g, o, none⟩) ws.length cap] w' fun e w' => e = .returned (.tuple #[.int .i64 (smV (total ws)), .bool (smOk (total ws))]) ∧ w' = w) := fun w' h => by subst h; exact sum_any ws g o cap _ hx hl hc
  obtain ⟨L, hL⟩ : ∃ L, ws.length = L := ⟨_, rfl⟩
  have NO : Hid (¬ (ws.length ≤ 1000 ∧ (∀ i, i < ws.length → 0 ≤ ws.getD i 0) ∧ smOk (total ws) = true ∧ total ws ≠ 0) → adV ws = 0 ∧ adOk ws = false) := fun h => ⟨(adOk_no h).2, (adOk_no h).1⟩
  have YES : Hid ((ws.length ≤ 1000 ∧ (∀ i, i < ws.length → 0 ≤ ws.getD i 0) ∧ smOk (total ws) = true ∧ total ws ≠ 0) → adV ws = total ws ∧ adOk ws = true) := fun h => by
    have e : adOk ws = true := decide_eq_true h
    exact ⟨by simp [adV, e], e⟩
  obtain ⟨V, HV⟩ : ∃ V, Hid (adV ws = V) := ⟨_, rfl⟩
  obtain ⟨K, HK⟩ : ∃ K, Hid (adOk ws = K) := ⟨_, rfl⟩
  rw [hL] at hl hc hg SM NO YES ⊢
  rw [HV.out, HK.out] at NO YES ⊢
  clear hL HV HK
  by_cases h1 : 1000 < L
  · obtain ⟨n1, n2⟩ := NO.out (fun h => by omega)
    subst n1 n2
    have h1' : (1000 : Int) < (L : Int) := by omega
    go_enter Tryd.func43, Tryd.ntmps43
    go_wp2
    go_ret2
    exact ⟨rfl, rfl⟩
  · go_enter Tryd.func43, Tryd.ntmps43
    go_wp2
    go_loop [5, 13] (fun _ ii => ∃ k : Nat, k ≤ L ∧ ii = .int .i64 (k : Int) ∧ ∀ i, i < k → 0 ≤ ws.getD i 0) (fun _ ii => L - (intOf ii).toNat)
    case atStart => exact ⟨0, by omega, rfl, fun i hi => by omega⟩
    case round =>
      obtain ⟨k, hk, rfl, hp⟩ := hrel
      have HP : Hid (∀ i, i < k → 0 ≤ ws.getD i 0) := hp
      clear hp
      by_cases hlt : (k : Int) < (L : Int)
      · have cx := hc k (by omega)
        by_cases hneg : ws.getD k 0 < 0
        · obtain ⟨n1, n2⟩ := NO.out (fun h => by have := h.2.1 k (by omega); omega)
          have N1 : Hid (0 = V) := n1.symm
          have N2 : Hid (false = K) := n2.symm
          clear n1 n2 NO YES hc
          generalize ws.getD k 0 = x at *
          go_wp2
          go_ret2
          exact ⟨ret_vk N1.out N2.out, rfl⟩
        · have HP2 : Hid (∀ i, i < k + 1 → 0 ≤ ws.getD i 0) := fun i hi => by
            by_cases e : i = k
            · rw [e]; omega
            · exact HP.out i (by omega)
          clear hc HP
          generalize ws.getD k 0 = x at *
          go_wp2
          go_round
          case rel => exact ⟨k + 1, by omega, by go_num, HP2.out⟩
          case measure => simp [intOf]; omega
      · obtain rfl : k = L := by omega
        have sv : smV (total ws) = if smOk (total ws) then total ws else 0 := rfl
        have Y1 : Hid (smOk (total ws) = true → total ws ≠ 0 → V = total ws ∧ K = true) := fun a b => by
          have := YES.out ⟨by omega, HP.out, a, b⟩; exact ⟨this.1, this.2⟩
        have N1 : Hid (smOk (total ws) = false ∨ total ws = 0 → V = 0 ∧ K = false) := fun a => NO.out (fun h => by
          rcases a with a | a
          · rw [a] at h; exact absurd h.2.2.1 (by decide)
          · exact h.2.2.2 a)
        clear NO YES hc HP
        generalize smV (total ws) = sV at *
        generalize smOk (total ws) = sK at *
        generalize total ws = t at *
        cases sK
        · obtain ⟨n1, n2⟩ := N1.out (Or.inl rfl)
          subst n1 n2
          clear sv Y1 N1
          go_wp2_with fail
          refine (SM.out _ rfl).mono ?_
          rintro e w1 ⟨rfl, hw⟩; rw [hw]; clear hw w1
          go_wp2_with fail
          go_ret2
          exact ⟨rfl, rfl⟩
        · obtain rfl : sV = t := by simpa using sv
          by_cases z : sV = 0
          · obtain ⟨n1, n2⟩ := N1.out (Or.inr z)
            subst n1 n2 z
            clear sv Y1 N1
            go_wp2_with fail
            refine (SM.out _ rfl).mono ?_
            rintro e w1 ⟨rfl, hw⟩; rw [hw]; clear hw w1
            go_wp2_with fail
            go_ret2
            exact ⟨rfl, rfl⟩
          · obtain ⟨n1, n2⟩ := Y1.out rfl z
            subst n1 n2
            have z' : (V == 0) = false := by rw [beq_eq_false_iff_ne]; exact z
            clear sv Y1 N1 z
            go_wp2_with fail
            refine (SM.out _ rfl).mono ?_
            rintro e w1 ⟨rfl, hw⟩; rw [hw]; clear hw w1
            go_wp2_with fail
            go_ret2
            exact ⟨rfl, rfl⟩

end Go.Proofs.YtfdahdloihgjeacDoor
