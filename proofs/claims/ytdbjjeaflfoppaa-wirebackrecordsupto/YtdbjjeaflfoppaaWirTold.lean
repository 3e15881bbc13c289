/-
  Ours: the statements' helpers told, copied, roomy, still.
-/
import Derived.Test.YtdbjjeaflfoppaaWirSame
import Derived.Test.YtdbjjeaflfoppaaWirZeros
namespace Go.Proofs.Ytdbjjeaflfoppaa
open Go.RowKit

theorem underI : Try.prog.underlying 3 = some (.int .i64) := by kernel_rfl

theorem rowV_set {e : TypeId} {base : Nat} {w : World} {g n cap i : Nat} {vs : List Value} {u : Value} (hn : vs.length = n) (h : RowV e base w (.slice (some ⟨g, 0, none⟩) n cap) vs) :
    RowV e base (w.setCell ⟨g, i, none⟩ u) (.slice (some ⟨g, 0, none⟩) n cap) (vs.set i u) ∧ w.grownBy (w.setCell ⟨g, i, none⟩ u) (some g) := by
  subst hn
  obtain ⟨h1, h2⟩ := World.ownsRow.stored h i u
  refine ⟨?_, h2⟩
  rw [RowV, List.length_set]
  exact h1

/-- A row of the call's own, where it lies. -/
theorem RowV.own {e : TypeId} {base : Nat} {w : World} {v : Value} {vs : List Value} (h : RowV e base w v vs) (h0 : 0 < vs.length) : ∃ g cap, v = .slice (some ⟨g, 0, none⟩) vs.length cap ∧ vs.length ≤ cap ∧
    (∀ i, i < vs.length → (w.cell? ⟨g, i, none⟩).isSome = true) ∧ ∀ i, w.frozen? ⟨g, i, none⟩ = false := by
  rcases h.2 with ⟨_, h0'⟩ | ⟨g, cap, cur, rfl, hb, hg, hn, hm, hs, ht⟩
  · omega
  · refine ⟨g, cap, rfl, hn, fun i hi => ?_, fun i => by simp [World.frozen?, hg]⟩
    rw [cell_of_row w g _ cur _ (0, 0) hg, Array.getElem?_eq_getElem (by omega)]; rfl

set_option maxHeartbeats 2000000 in
theorem told_at (bs : List Nat) (base : Nat) (p q c : Value) (w : World) (hl : bs.length ≤ 140737488351232) (hp : RowB 5 base w p bs) (hq : RdB w q bs) (hc : RdB w c bs)
    (aq : ∀ g, q.ownBlock = some g → p.ownBlock ≠ some g) (ac : ∀ g, c.ownBlock = some g → p.ownBlock ≠ some g) :
    Calls Try.prog 29 #[p, q, c] w fun e w' => e = .returned (.bool true) ∧ w.grownBy w' p.ownBlock := by
  obtain ⟨i0, hi, hz0, hz1, hz2⟩ := info_parts infoB
  have S1 : Hid (∀ w p q, RdB w p bs → RdB w q bs → Calls Try.prog 10 #[p, q] w fun e w' => e = .returned (.bool true) ∧ ∃ n, w' = w.drewN n) := fun w p q h1 h2 =>
    (same_at bs bs p q w (by omega) h1 h2).mono fun e w' ⟨h3, h4⟩ => ⟨by rw [h3, decide_eq_true rfl], h4⟩
  have HP : Hid (RdB w p bs) := RowV.rd hp
  have HQ : Hid (∀ w', w.grownBy w' p.ownBlock → RdB w' q bs) := fun w' h => Rd.grown hq h aq
  have HC : Hid (∀ w', w.grownBy w' p.ownBlock → RdB w' c bs) := fun w' h => Rd.grown hc h ac
  obtain ⟨L, hL⟩ : ∃ L, bs.length = L := ⟨_, rfl⟩
  obtain ⟨vs, hvs⟩ : ∃ vs, bs.map bv = vs := ⟨_, rfl⟩
  have LV : vs.length = L := by rw [← hvs, List.length_map, hL]
  obtain ⟨aC, kC, rfl, _, _⟩ := hc.len
  have hp' : RowV 5 base w p vs := by rw [← hvs]; exact hp
  have hl' : L ≤ 140737488351232 := by omega
  simp only [List.length_map] at HC ⊢
  rw [hL] at HC ⊢
  clear hp hq hc aq ac hvs hL hl
  obtain ⟨aP, kP, rfl, hPc, _⟩ := hp'.rd.len
  rw [LV] at hPc hp' HP HQ HC ⊢
  go_enter Try.func29, Try.ntmps29
  go_wp2_with fail
  refine (S1.out _ _ _ HP.out (HC.out _ (grownBy_refl _ _))).mono ?_
  rintro e w1 ⟨rfl, n1, rfl⟩
  go_wp2_with fail
  refine (S1.out _ _ _ (HQ.out _ (grownBy_drewN (grownBy_refl _ _) n1)) (HC.out _ (grownBy_drewN (grownBy_refl _ _) n1))).mono ?_
  rintro e w1 ⟨rfl, n2, rfl⟩
  go_wp2_with fail
  go_loopw [8] (fun vk wr => ∃ (k : Nat) (us : List Value), vk = .int .i64 (k : Int) ∧ k ≤ L ∧ us.length = L ∧ RowV 5 base wr (.slice aP L kP) us ∧ w.grownBy wr (Value.slice aP L kP).ownBlock) (fun vk _ => L - (intOf vk).toNat)
  case atStart => exact ⟨0, vs, rfl, by omega, LV, hp', grownBy_drewN (grownBy_refl _ _) (n1 + n2)⟩
  case round =>
    obtain ⟨k, us, rfl, hk, hu, hr, hg⟩ := hrel
    by_cases hlt : (k : Int) < (L : Int)
    · obtain ⟨g, cap, e1, hcap, hsome, hfz⟩ := hr.own (by omega)
      rw [hu] at e1
      cases e1
      have c1 := hsome k (by omega)
      have f1 := hfz k
      obtain ⟨x, hx⟩ := Option.isSome_iff_exists.1 c1
      obtain ⟨r2, g2⟩ := rowV_set (i := k) (u := .int .u8 211) hu hr
      have R2 : Hid (RowV 5 base (wr.setCell ⟨g, k, none⟩ (.int .u8 211)) (.slice (some ⟨g, 0, none⟩) L kP) (us.set k (.int .u8 211))) := r2
      have G2 : Hid (w.grownBy (wr.setCell ⟨g, k, none⟩ (.int .u8 211)) (some g)) := grownBy_trans hg g2
      clear r2 g2 hsome hfz
      go_wp2_with fail
      go_roundw
      case rel => exact ⟨k + 1, _, by go_num, by omega, by rw [List.length_set]; exact hu, R2.out, G2.out⟩
      case measure => simp [intOf]; omega
    · obtain rfl : k = L := by omega
      have hl2 : us.length + 64 ≤ 140737488355328 := by omega
      go_wp2_with (at_builtin; refine wpList_zerosB rfl (.tmp 27) (.const (.int .i64 64)) 33 3 .i64 rfl 5 i0 underB underI hi hz0 hz1 hz2 base _ us rfl hr rfl hl2 ?_; intro ao cap w3 hgr)
      have G3 : Hid (w.grownBy w3 (Value.slice aP k kP).ownBlock) := grownBy_trans hg hgr
      clear hg hgr hr
      refine (S1.out _ _ _ (HQ.out _ G3.out) (HC.out _ G3.out)).mono ?_
      rintro e w1 ⟨rfl, n3, rfl⟩
      go_wp2_with fail
      go_ret
      exact ⟨rfl, grownBy_drewN G3.out n3⟩

set_option maxHeartbeats 2000000 in
theorem copied_at (bs : List Nat) (v : Value) (w : World) (hl : bs.length ≤ 140737488351232) (h : RdB w v bs) : Calls Try.prog 18 #[v] w (NewB w bs) := by
  obtain ⟨i0, hi, hz0, hz1, hz2⟩ := info_parts infoB
  obtain ⟨L, hL⟩ : ∃ L, bs.length = L := ⟨_, rfl⟩
  obtain ⟨ao, cap, rfl, hcap, hn, H⟩ := h
  have HH : Hid (∀ i (h : i < L), ∃ g o, ao = some ⟨g, o, none⟩ ∧ g < w.heap.size ∧ w.cell? ⟨g, o + i, none⟩ = some (.int .u8 (bs.getD i 0 : Nat)) ∧ bs.take (i + 1) = bs.take i ++ [bs.getD i 0]) := fun i hi => by
    obtain ⟨g, o, e1, lt, e2⟩ := H i (by rw [List.length_map]; omega)
    refine ⟨g, o, e1, lt, ?_, ?_⟩
    · rw [e2, List.getElem_map, List.getD_eq_getElem?_getD, List.getElem?_eq_getElem (by omega)]; rfl
    · rw [List.take_add_one, List.getD_eq_getElem?_getD, List.getElem?_eq_getElem (by omega)]; rfl
  rw [List.length_map, hL] at hcap ⊢
  have HL : Hid (bs.length = L) := hL
  have HF : Hid (bs.take L = bs) := List.take_of_length_le (by omega)
  have hl' : L ≤ 140737488351232 := by omega
  clear H hL hl
  go_enter Try.func18, Try.ntmps18
  go_wp2_with fail
  go_loopw [3, 4] (fun v vk wr => ∃ k : Nat, vk = .int .i64 (k : Int) ∧ k ≤ L ∧ RowB 5 w.heap.size wr v (bs.take k) ∧ Below w.heap.size w wr) (fun _ vk _ => L - (intOf vk).toNat)
  case atStart => exact ⟨0, rfl, by omega, RowV.nil _ _ _, Below.refl _ _⟩
  case round =>
    obtain ⟨k, rfl, hk, hown, hnx⟩ := hrel
    have hsz := hnx.size
    have lt : (bs.take k).length = k := by have := HL.out; simp; omega
    have l1 : ((bs.take k).map bv).length + 1 ≤ maxLen := by rw [List.length_map, lt]; unfold maxLen; omega
    have l2 : (((bs.take k).map bv).length + 1) * 1 ≤ 140737488355328 := by rw [List.length_map, lt]; omega
    clear lt
    by_cases hlt : (k : Int) < (L : Int)
    · obtain ⟨g, o, rfl, lt, cc, ct⟩ := HH.out k (by omega)
      have c2 : wr.cell? ⟨g, o + k, none⟩ = some (.int .u8 ((bs.getD k 0 : Nat) : Int)) := (hnx.cell (p := ⟨g, o + k, none⟩) lt).trans cc
      have CT : Hid (bs.take (k + 1) = bs.take k ++ [bs.getD k 0]) := ct
      clear ct cc
      generalize bs.getD k 0 = x at *
      go_wp2_with (at_builtin; refine wpList_pushV rfl (.tmp 11) (.tmp 16) 33 rfl 5 i0 (.int .u8 0) 1 underB hi hz0 hz1 hz2 rfl w.heap.size _ _ _ rfl rfl hown hsz rfl l1 l2 ?_; intro v' w1 hown' hgr)
      have hb : Below w.heap.size w w1 := below_grown hnx hown (Nat.le_refl _) hsz hgr
      go_roundw
      case rel => exact ⟨k + 1, by go_num, by omega, by rw [CT.out]; exact rowB_push hown' rfl, hb⟩
      case measure => simp [intOf]; omega
    · obtain rfl : k = L := by omega
      go_wp2_with fail
      go_ret
      refine ⟨_, rfl, ?_, hnx⟩
      rw [HF.out] at hown; exact hown

def roomL (bs : List Nat) : List Nat := bs ++ [90, 91, 92, 93]

set_option maxHeartbeats 2000000 in
theorem roomy_at (bs : List Nat) (v : Value) (w : World) (hl : bs.length ≤ 140737488351232) (h : RdB w v bs) : Calls Try.prog 31 #[v] w (NewB w (roomL bs)) := by
  obtain ⟨i0, hi, hz0, hz1, hz2⟩ := info_parts infoB
  have C : Hid (Calls Try.prog 18 #[v] w (NewB w bs)) := copied_at bs v w hl h
  clear h
  go_enter Try.func31, Try.ntmps31
  go_wp2_with fail
  refine C.out.mono ?_
  rintro e w1 ⟨v1, rfl, r1, b1⟩
  have hsz := b1.size
  have own : RowB 5 w.heap.size (w1.alloc (.cells #[.int .u8 90, .int .u8 91, .int .u8 92, .int .u8 93] 5)) v1 bs := World.ownsRow.alloc r1 _
  have rd4 : Rd (w1.alloc (.cells #[.int .u8 90, .int .u8 91, .int .u8 92, .int .u8 93] 5)) (.slice (some ⟨w1.heap.size, 0, none⟩) 4 4) [.int .u8 90, .int .u8 91, .int .u8 92, .int .u8 93] := by
    refine ⟨_, 4, rfl, by decide, (by intro h; cases h), fun i hi => ⟨w1.heap.size, 0, rfl, by simp, ?_⟩⟩
    match i, hi with
    | 0, _ => simp
    | 1, _ => simp
    | 2, _ => simp
    | 3, _ => simp
  have l1 : (bs.map bv).length + [Value.int .u8 90, .int .u8 91, .int .u8 92, .int .u8 93].length ≤ maxLen := by rw [List.length_map]; simp; unfold maxLen; omega
  have l2 : ((bs.map bv).length + [Value.int .u8 90, .int .u8 91, .int .u8 92, .int .u8 93].length) * 1 ≤ 140737488355328 := by rw [List.length_map]; simp; omega
  have hsz2 : w.heap.size ≤ (w1.alloc (.cells #[.int .u8 90, .int .u8 91, .int .u8 92, .int .u8 93] 5)).heap.size := by simp; omega
  have bb : Below w.heap.size w (w1.alloc (.cells #[.int .u8 90, .int .u8 91, .int .u8 92, .int .u8 93] 5)) := b1.alloc hsz _
  go_wp2_with (at_builtin; refine wpList_catV rfl (.tmp 4) (.tmp 5) 33 rfl 5 i0 (.int .u8 0) 1 underB hi hz0 hz1 hz2 rfl w.heap.size _ _ _ _ (by decide) rfl own hsz2 rfl rd4 l1 l2 ?_; intro v' w2 hown' hgr)
  go_ret
  refine ⟨_, rfl, ?_, below_grown bb own (Nat.le_refl _) hsz2 hgr⟩
  simpa [RowB, roomL, bv] using hown'

set_option maxHeartbeats 2000000 in
theorem still_at (bs : List Nat) (f v : Value) (w : World) (hl : bs.length ≤ 140737488351232) (hf : RdB w f (roomL bs)) (h : RdB w v bs) :
    Calls Try.prog 33 #[f, v] w fun e w' => e = .returned (.bool true) ∧ Below w.heap.size w w' := by
  have C : Hid (Calls Try.prog 31 #[v] w (NewB w (roomL bs))) := roomy_at bs v w hl h
  have hl2 : (roomL bs).length ≤ 140737488355328 := by simp [roomL]; omega
  have HF : Hid (RdB w f (roomL bs)) := hf
  clear h hf
  go_enter Try.func33, Try.ntmps33
  go_wp2_with fail
  refine C.out.mono ?_
  rintro e w1 ⟨v1, rfl, r1, b1⟩
  have R1 : Hid (RdB w1 v1 (roomL bs)) := RowV.rd r1
  have R2 : Hid (RdB w1 f (roomL bs)) := Rd.later HF.out b1
  clear r1
  go_wp2_with fail
  refine (same_at _ _ _ _ _ hl2 R2.out R1.out).mono ?_
  rintro e w2 ⟨rfl, n, rfl⟩
  rw [decide_eq_true rfl]
  go_wp2_with fail
  go_ret
  exact ⟨rfl, below_drewN b1 n⟩
end Go.Proofs.Ytdbjjeaflfoppaa
