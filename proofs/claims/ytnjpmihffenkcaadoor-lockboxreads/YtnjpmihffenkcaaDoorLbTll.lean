/-
  Ours: lockbox.tellBatch, Format.
-/
import Derived.Test.YtnjpmihffenkcaaDoorLbTot
namespace Go.Proofs.YtnjpmihffenkcaaDoor
open Go.RowKit LbM LbF CalM
theorem sizeBt (b : Bt) (v : Value) : (Tryd.prog.info? 24).map (·.size) = some (btL b v).length := by show _ = some 3; kernel_rfl
abbrev dtL (y m k : Int) : List Value := [.int .i64 y, .int .i64 m, .int .i64 k]
theorem sizeDt (y m k : Int) : (Tryd.prog.info? 50).map (·.size) = some (dtL y m k).length := by show _ = some 3; kernel_rfl
theorem oneDt (y m k : Int) : ∀ v ∈ dtL y m k, v.oneCell' = true := fun v hv => by
  simp [dtL] at hv
  rcases hv with rfl | rfl | rfl <;> rfl
theorem dets_snoc {its : List It} {i : Nat} {x : It} (h : its[i]? = some x) : dets 0 (its.take (i + 1)) = dets 0 (its.take i) ++ lin 1 (itN i x) := by
  rw [its_take h, dets_app, List.length_take, Nat.min_eq_left (Nat.le_of_lt (List.getElem?_eq_some_iff.1 h).1), Nat.zero_add]
  simp [dets]
theorem dets_le (its : List It) (hl : its.length ≤ 9999) (ok : ∀ x ∈ its, x.Ok) : ∀ i, i ≤ its.length → (dets 0 (its.take i)).length ≤ 25 * i
  | 0, _ => by simp [dets]
  | i + 1, h => by
    have ih := dets_le its hl ok i (by omega)
    have hx : its[i]? = some (its[i]'(by omega)) := List.getElem?_eq_getElem (by omega)
    rw [dets_snoc hx, List.length_append, lin_len (item_fits (ok _ (List.mem_of_getElem? hx)) (by omega))]
    show _ + (23 + 2) ≤ _
    omega
/-- Where the tables lie that a batch is told by. -/
structure LbW (w : World) : Prop where
  tp : TabP w
  fw : FormW w
  ta : TabA w
theorem LbW.later {w w' : World} (h : LbW w) (b : Below w.heap.size w w') : LbW w' := ⟨h.tp.below b, h.fw.later b, h.ta.up b⟩
set_option maxRecDepth 20000 in
set_option maxHeartbeats 8000000 in
theorem tellBatch_at (b : Bt) (hb : b.Has) (y m k : Int) (ho : Ok y m k) (hd : dA y m + k = b.day) (v : Value) (w : World) (hw : LbW w) (h : RdI w v b.its) :
    Calls Tryd.prog 21 #[btV b v] w (TelAns w.heap.size w (fileB y m k b)) := by
  have CIV : Hid (∀ w', Below w.heap.size w w' → Calls Tryd.prog 34 #[.int .i64 b.day] w' fun e w2 => e = .returned (.tuple #[.agg #[.int .i64 y, .int .i64 m, .int .i64 k], .bool true]) ∧ ∃ o, w2 = w'.alloc o) := fun w' q => civil_at y m k b.day ho hd w' (hw.ta.up q)
  have CN : Hid (∀ (N : Nat) (w' : World), N ≤ 999999 → Ctx w.heap.size w w' → Calls Tryd.prog 36 #[.int .i64 (N : Int)] w' fun e w2 => e = .returned (.tuple #[.int .i64 ((cd6 N : Nat) : Int), .bool true]) ∧ Below w'.heap.size w' w2) := fun N w' hN q => checkNum_at N hN w' q.tp
  have AL : Hid (∀ (kk : Nat) (ns : List Nat) (N : Nat) (bs : List Nat) (v : Value) (w' : World) (n : Nat), kk < 3 → fits (wid kk) ns → Ctx w.heap.size w w' → bs.length ≤ 999990000 → RowB 5 w.heap.size w' v bs → Blk N 2 (nvL ns) w' → ns.length = n → Calls Tryd.prog 35 #[v, .int .i64 (kk : Int), .slice (some ⟨N, 0, none⟩) n n] w' (TelAns w.heap.size w' (bs ++ lin kk ns))) := fun kk ns N bs v w' n h1 h2 h3 h4 h5 h6 h7 => appendLine_at kk h1 ns h2 N w.heap.size bs v w w' h3 h4 h5 h6 n h7
  have hb' := hb
  unfold Bt.Has at hb
  obtain ⟨-, -, n1, n2, l1, l2, ok⟩ := hb
  have TO : Hid (∀ w', Below w.heap.size w w' → Calls Tryd.prog 37 #[v] w' (NumAns w' (totN b.its))) := fun w' q => totals_at b.its v w' l2 ok (h.later q)
  obtain ⟨ao, cap, rfl, hcap, hno, H⟩ := h
  have CE : Hid (∀ w', Below w.heap.size w w' → ∀ (i : Nat) (x : It), b.its[i]? = some x → ∃ g o, ao = some ⟨g, o, none⟩ ∧ w'.rangeAt g (o + i * 2) (itL x)) := fun w' hb i x hi => by
    obtain ⟨g, o, e, lt, r⟩ := H i x hi
    exact ⟨g, o, e, range_later r lt hb⟩
  have hf0 := head_fits ho ⟨n1, n2⟩
  have hft := tot_fits l2 ok
  obtain ⟨yn, rfl⟩ : ∃ n : Nat, y = (n : Int) := ⟨y.toNat, by unfold Ok at ho; omega⟩
  obtain ⟨mn, rfl⟩ : ∃ n : Nat, m = (n : Int) := ⟨m.toNat, by unfold Ok at ho; omega⟩
  obtain ⟨kn, rfl⟩ : ∃ n : Nat, k = (n : Int) := ⟨k.toNat, by unfold Ok at ho; omega⟩
  obtain ⟨day, num, its⟩ := b
  simp only at *
  obtain ⟨nn, rfl⟩ : ∃ n : Nat, num = (n : Int) := ⟨num.toNat, by omega⟩
  have DL : Hid (∀ i, i ≤ its.length → (dets 0 (its.take i)).length ≤ 25 * i) := dets_le its l2 ok
  obtain ⟨L, hL⟩ : ∃ L, its.length = L := ⟨_, rfl⟩
  have GI : Hid (∀ i, i < L → ∃ l a : Nat, its[i]? = some ⟨(l : Int), (a : Int)⟩ ∧ l ≤ 999999 ∧ dets 0 (its.take (i + 1)) = dets 0 (its.take i) ++ lin 1 [i + 1, l, cd6 l, a] ∧ fits (wid 1) [i + 1, l, cd6 l, a]) := fun i hi => by
    have hx : its[i]? = some (its[i]'(by omega)) := List.getElem?_eq_getElem (by omega)
    have hok := ok _ (List.mem_of_getElem? hx)
    have hfi := item_fits hok (i := i) (by omega)
    obtain ⟨l, a, e, hl, ha⟩ := its_nat hok
    rw [e] at hx hfi
    have := dets_snoc hx
    unfold itN at this hfi
    simp only [Int.toNat_natCast] at this hfi
    exact ⟨l, a, hx, hl, this, hfi⟩
  have TK : Hid (its.take L = its) := by show _ = _; rw [← hL, List.take_length]
  have FB : Hid (fileB yn mn kn ⟨day, nn, its⟩ = lin 0 [yn, mn, kn, nn] ++ dets 0 its ++ lin 2 (totN its)) := by
    show _ = _
    unfold fileB headB
    simp only [Int.toNat_natCast]
  have HD : Hid ((lin 0 [yn, mn, kn, nn]).length = 16) := by
    have := lin_len hf0
    simp only [Int.toNat_natCast] at this
    exact this
  simp only [Int.toNat_natCast] at hf0
  have F0 : Hid (fits (wid 0) [yn, mn, kn, nn]) := hf0
  have FT : Hid (fits (wid 2) (totN its)) := hft
  rw [FB.out]
  clear FB hb' hf0 hft ho hd H hno n1 n2 l1 ok
  rw [hL] at hcap l2 DL
  have BB : Hid (LbW w) := hw
  have NB : Hid (Blk w.heap.size 24 [.int .i64 day, .int .i64 nn, .slice ao L cap] (w.alloc (.cells #[.int .i64 day, .int .i64 nn, .slice ao L cap] 24))) := Blk.new 24 [.int .i64 day, .int .i64 nn, .slice ao L cap] w
  have BA : Hid (Below w.heap.size w (w.alloc (.cells #[.int .i64 day, .int .i64 nn, .slice ao L cap] 24))) := below_alloc w _
  simp only [hL] at *
  clear hL hw
  go_enter Tryd.func21, Tryd.ntmps21
  go_upto_region 1 with fail
  generalize w.alloc (.cells #[.int .i64 day, .int .i64 nn, .slice ao L cap] 24) = w1 at *
  have c0 := NB.out.cell 0 _ rfl
  go_wp2_with fail
  refine (CIV.out w1 BA.out).mono ?_
  rintro e w2 ⟨rfl, ob, hw2⟩
  have b2 : Below w1.heap.size w1 w2 := by rw [hw2]; exact below_alloc _ _
  have S2 : Hid (Blk w.heap.size 24 [.int .i64 day, .int .i64 nn, .slice ao L cap] w2 ∧ Below w.heap.size w w2) := ⟨NB.out.below b2, below_trans BA.out b2⟩
  have DB : Hid (Blk w2.heap.size 50 (dtL 0 0 0) (w2.alloc (.cells #[.int .i64 0, .int .i64 0, .int .i64 0] 50))) := Blk.new 50 (dtL 0 0 0) w2
  clear hw2 b2 NB BA c0 CIV
  go_upto_region 2 with (refine step_store rfl 50 _ _ rfl w2.heap.size 0 50 (dtL 0 0 0) (dtL yn mn kn) rfl rfl DB.out (Nat.le_refl _) (sizeDt _ _ _) (oneDt _ _ _) ?_; intro w3 nb3 g3)
  have n3 : Blk w2.heap.size 50 (dtL yn mn kn) w3 := nb3
  have hs2 := S2.out.2.size
  have S3 : Hid (Blk w.heap.size 24 [.int .i64 day, .int .i64 nn, .slice ao L cap] w3 ∧ Below w.heap.size w w3) := ⟨(S2.out.1.below (below_alloc _ _)).grown g3 (fun e => by injection e with e; have := S2.out.1.lt; omega), below_row (S2.out.2.alloc S2.out.2.size _) g3 hs2⟩
  have d0 := n3.cell 0 _ rfl
  have d1 := n3.cell 1 _ rfl
  have d2 := n3.cell 2 _ rfl
  have c1 := S3.out.1.cell 1 _ rfl
  clear nb3 n3 g3 DB S2
  have S4 : Hid (Blk w.heap.size 24 [.int .i64 day, .int .i64 nn, .slice ao L cap] (w3.alloc (.cells #[.int .i64 yn, .int .i64 mn, .int .i64 kn, .int .i64 nn] 2)) ∧ Ctx w.heap.size w (w3.alloc (.cells #[.int .i64 yn, .int .i64 mn, .int .i64 kn, .int .i64 nn] 2)) ∧ Blk w3.heap.size 2 (nvL [yn, mn, kn, nn]) (w3.alloc (.cells #[.int .i64 yn, .int .i64 mn, .int .i64 kn, .int .i64 nn] 2))) :=
    ⟨S3.out.1.below (below_alloc _ _), (ctx_of BB.out.tp BB.out.fw).step (TG.of (S3.out.2.alloc S3.out.2.size _)), Blk.new 2 (nvL [yn, mn, kn, nn]) w3⟩
  go_wp2_with fail
  refine (AL.out 0 [yn, mn, kn, nn] w3.heap.size [] (.slice none 0 0) _ 4 (by decide) F0.out S4.out.2.1 (by simp) (RowV.nil _ _ _) S4.out.2.2 rfl).mono ?_
  rintro e w5 ⟨a5, n5, k5, rfl, r5, t5⟩
  have S5 : Hid (Blk w.heap.size 24 [.int .i64 day, .int .i64 nn, .slice ao L cap] w5 ∧ Ctx w.heap.size w w5 ∧ RowB 5 w.heap.size w5 (.slice a5 n5 k5) (lin 0 [yn, mn, kn, nn])) := ⟨S4.out.1.tg t5 (by decide), S4.out.2.1.step t5, r5⟩
  have c2 := S5.out.1.cell 2 _ rfl
  clear r5 t5 S4 d0 d1 d2 c1 S3 F0 hs2
  go_wp2_with fail
  go_loopw [5, 29] (fun vf vk wr => ∃ (i : Nat) (a : Option Addr) (n c : Nat), vk = .int .i64 (i : Int) ∧ i ≤ L ∧ vf = .slice a n c ∧ Hid (Blk w.heap.size 24 [.int .i64 day, .int .i64 nn, .slice ao L cap] wr ∧ Ctx w.heap.size w wr ∧ RowB 5 w.heap.size wr (.slice a n c) (lin 0 [yn, mn, kn, nn] ++ dets 0 (its.take i)))) (fun _ vk _ => L - (intOf vk).toNat)
  case atStart => exact ⟨0, a5, n5, k5, rfl, by omega, rfl, S5.out.1, S5.out.2.1, by simpa [dets] using S5.out.2.2⟩
  case round =>
    obtain ⟨i, a, n, c, rfl, hik, rfl, HR⟩ := hrel
    clear S5 c2
    by_cases hlt : (i : Int) < (L : Int)
    · obtain ⟨l, am, hx, hl1, ed, hfi⟩ := GI.out i (by omega)
      obtain ⟨g, o, rfl, rg⟩ := CE.out wr HR.out.2.1.below i _ hx
      have RG : Hid (wr.rangeAt g (o + i * 2) (itL ⟨(l : Int), (am : Int)⟩)) := rg
      have ED : Hid (dets 0 (its.take (i + 1)) = dets 0 (its.take i) ++ lin 1 [i + 1, l, cd6 l, am]) := ed
      have FI : Hid (fits (wid 1) [i + 1, l, cd6 l, am]) := hfi
      have NB2 : Hid (Blk wr.heap.size 43 itZ (wr.alloc (.cells #[.int .i64 0, .int .i64 0] 43))) := Blk.new 43 itZ wr
      have hsr := HR.out.2.1.lb
      clear rg hx ed hfi
      go_upto_region 6 with (first
        | (refine step_load rfl 43 _ rfl g (o + i * 2) rfl (itL ⟨(l : Int), (am : Int)⟩) _ RG.out Tryd.underlying43 rfl (sizeIt _) ?_)
        | (refine step_store rfl 43 _ _ rfl wr.heap.size 0 43 itZ (itL ⟨(l : Int), (am : Int)⟩) rfl rfl NB2.out (Nat.le_refl _) (sizeIt _) (oneIt _) ?_; intro w2 nb2 g2))
      have b2 : Below wr.heap.size wr w2 := below_row (below_alloc _ _) g2 (Nat.le_refl _)
      have S6 : Hid (Blk wr.heap.size 43 (itL ⟨(l : Int), (am : Int)⟩) w2 ∧ Blk w.heap.size 24 [.int .i64 day, .int .i64 nn, .slice (some ⟨g, o, none⟩) L cap] w2 ∧ Ctx w.heap.size w w2 ∧ RowB 5 w.heap.size w2 (.slice a n c) (lin 0 [yn, mn, kn, nn] ++ dets 0 (its.take i))) := ⟨nb2, HR.out.1.below b2, HR.out.2.1.step (TG.of b2), HR.out.2.2.later b2⟩
      have e0 := S6.out.1.cell 0 _ rfl
      clear nb2 g2 NB2 b2 HR RG hsr
      go_wp2_with fail
      refine (CN.out l w2 hl1 S6.out.2.2.1).mono ?_
      rintro e w3 ⟨rfl, b3⟩
      have S7 : Hid (Blk wr.heap.size 43 (itL ⟨(l : Int), (am : Int)⟩) w3 ∧ Blk w.heap.size 24 [.int .i64 day, .int .i64 nn, .slice (some ⟨g, o, none⟩) L cap] w3 ∧ Ctx w.heap.size w w3 ∧ RowB 5 w.heap.size w3 (.slice a n c) (lin 0 [yn, mn, kn, nn] ++ dets 0 (its.take i))) := ⟨S6.out.1.below b3, S6.out.2.1.below b3, S6.out.2.2.1.step (TG.of b3), S6.out.2.2.2.later b3⟩
      have f0 := S7.out.1.cell 0 _ rfl
      have f1 := S7.out.1.cell 1 _ rfl
      clear b3 S6 e0
      have b8 : Below w3.heap.size w3 (w3.alloc (.cells #[.int .i64 ((i : Int) + 1), .int .i64 (l : Int), .int .i64 ((cd6 l : Nat) : Int), .int .i64 (am : Int)] 2)) := below_alloc _ _
      have S8 : Hid (Blk w.heap.size 24 [.int .i64 day, .int .i64 nn, .slice (some ⟨g, o, none⟩) L cap] (w3.alloc (.cells #[.int .i64 ((i : Int) + 1), .int .i64 (l : Int), .int .i64 ((cd6 l : Nat) : Int), .int .i64 (am : Int)] 2)) ∧ Ctx w.heap.size w (w3.alloc (.cells #[.int .i64 ((i : Int) + 1), .int .i64 (l : Int), .int .i64 ((cd6 l : Nat) : Int), .int .i64 (am : Int)] 2)) ∧ RowB 5 w.heap.size (w3.alloc (.cells #[.int .i64 ((i : Int) + 1), .int .i64 (l : Int), .int .i64 ((cd6 l : Nat) : Int), .int .i64 (am : Int)] 2)) (.slice a n c) (lin 0 [yn, mn, kn, nn] ++ dets 0 (its.take i)) ∧ Blk w3.heap.size 2 (nvL [i + 1, l, cd6 l, am]) (w3.alloc (.cells #[.int .i64 ((i : Int) + 1), .int .i64 (l : Int), .int .i64 ((cd6 l : Nat) : Int), .int .i64 (am : Int)] 2))) :=
        ⟨S7.out.2.1.below b8, S7.out.2.2.1.step (TG.of b8), S7.out.2.2.2.later b8, Blk.new 2 (nvL [i + 1, l, cd6 l, am]) w3⟩
      have hlen : (lin 0 [yn, mn, kn, nn] ++ dets 0 (its.take i)).length ≤ 999990000 := by rw [List.length_append, HD.out]; have := DL.out i (by omega); omega
      have HLN : Hid ((lin 0 [yn, mn, kn, nn] ++ dets 0 (its.take i)).length ≤ 999990000) := hlen
      clear b8 hlen
      go_wp2_with fail
      refine (AL.out 1 [i + 1, l, cd6 l, am] w3.heap.size _ (.slice a n c) _ 4 (by decide) FI.out S8.out.2.1 HLN.out S8.out.2.2.1 S8.out.2.2.2 rfl).mono ?_
      rintro e w4 ⟨a4, n4, c4, rfl, r4, t4⟩
      have R4 : Hid (Blk w.heap.size 24 [.int .i64 day, .int .i64 nn, .slice (some ⟨g, o, none⟩) L cap] w4 ∧ Ctx w.heap.size w w4 ∧ RowB 5 w.heap.size w4 (.slice a4 n4 c4) (lin 0 [yn, mn, kn, nn] ++ dets 0 (its.take (i + 1)))) := ⟨S8.out.1.tg t4 (by decide), S8.out.2.1.step t4, by rw [ED.out, ← List.append_assoc]; exact r4⟩
      clear r4 t4 S8 S7 f0 f1 HLN
      go_wp2_with fail
      go_roundw
      case rel => exact ⟨i + 1, a4, n4, c4, by go_num, by omega, rfl, R4⟩
      case measure => simp [intOf]; omega
    · obtain rfl : i = L := by omega
      have HS : Hid (Blk w.heap.size 24 [.int .i64 day, .int .i64 nn, .slice ao i cap] wr ∧ Ctx w.heap.size w wr ∧ RowB 5 w.heap.size wr (.slice a n c) (lin 0 [yn, mn, kn, nn] ++ dets 0 its)) := by have := HR.out; rw [TK.out] at this; exact this
      have hlen : (lin 0 [yn, mn, kn, nn] ++ dets 0 its).length ≤ 999990000 := by rw [List.length_append, HD.out]; have := DL.out i (Nat.le_refl _); rw [TK.out] at this; omega
      have HLN : Hid ((lin 0 [yn, mn, kn, nn] ++ dets 0 its).length ≤ 999990000) := hlen
      have cc2 := HS.out.1.cell 2 _ rfl
      clear HR hlen
      go_wp2_with fail
      refine (TO.out wr HS.out.2.1.below).mono ?_
      rintro e w6 ⟨N, rfl, bN, b6, _⟩
      have X6 : Hid (Blk N 2 (nvL (totN its)) w6 ∧ Below wr.heap.size wr w6) := ⟨bN, b6⟩
      clear bN b6
      go_wp2_with fail
      refine (AL.out 2 (totN its) N _ (.slice a n c) w6 3 (by decide) FT.out (HS.out.2.1.step (TG.of X6.out.2)) HLN.out (HS.out.2.2.later X6.out.2) X6.out.1 rfl).mono ?_
      rintro e w7 ⟨a7, n7, c7, rfl, r7, t7⟩
      have F7 : Hid (RowB 5 w.heap.size w7 (.slice a7 n7 c7) (lin 0 [yn, mn, kn, nn] ++ dets 0 its ++ lin 2 (totN its)) ∧ Below w.heap.size w w7) := ⟨r7, ((HS.out.2.1.step (TG.of X6.out.2)).step t7).below⟩
      clear r7 t7
      go_wp2_with fail
      go_ret
      exact ⟨_, _, _, rfl, F7.out.1, TG.of F7.out.2⟩
/-- What Format answers. -/
def FmtAns (b : Bt) (bs : List Nat) (w : World) (e : Ending) (w' : World) : Prop := if b.Has then ∃ a n c, e = .returned (.tuple #[.slice a n c, .bool true]) ∧ RowB 5 w.heap.size w' (.slice a n c) bs ∧ Below w.heap.size w w' else e = .returned (.tuple #[.slice none 0 0, .bool false]) ∧ Below w.heap.size w w'
set_option maxRecDepth 20000 in
set_option maxHeartbeats 4000000 in
theorem format_at (b : Bt) (y m k : Int) (ho : b.Has → Ok y m k ∧ dA y m + k = b.day) (hl : b.its.length ≤ 1000000000) (v : Value) (w : World) (hw : LbW w) (h : RdI w v b.its) :
    Calls Tryd.prog 8 #[btV b v] w (FmtAns b (fileB y m k b) w) := by
  have HF : Hid (∀ w', Below w.heap.size w w' → Calls Tryd.prog 20 #[btV b v] w' fun e w2 => e = .returned (.bool (decide b.Has)) ∧ Below w'.heap.size w' w2) := fun w' q => hasFile_at b v w' hl (h.later q)
  have TB : Hid (b.Has → ∀ w', Below w.heap.size w w' → Calls Tryd.prog 21 #[btV b v] w' (TelAns w'.heap.size w' (fileB y m k b))) := fun hb w' q => tellBatch_at b hb y m k (ho hb).1 (ho hb).2 v w' (hw.later q) (h.later q)
  have NB : Hid (Blk w.heap.size 24 (btL b v) (w.alloc (.cells #[.int .i64 b.day, .int .i64 b.num, v] 24))) := Blk.new 24 (btL b v) w
  have BA : Hid (Below w.heap.size w (w.alloc (.cells #[.int .i64 b.day, .int .i64 b.num, v] 24))) := below_alloc w _
  obtain ⟨ao, cap, rfl, -, -, -⟩ := h
  clear ho hl hw
  generalize b.its.length = L at *
  go_enter Tryd.func8, Tryd.ntmps8
  go_upto_region 1 with fail
  generalize w.alloc (.cells #[.int .i64 b.day, .int .i64 b.num, .slice ao L cap] 24) = w1 at *
  go_wp2_with (refine step_load rfl 24 _ rfl w.heap.size 0 rfl (btL b (.slice ao L cap)) _ (Blk.all NB.out) Tryd.underlying24 rfl (sizeBt _ _) ?_)
  refine (HF.out w1 BA.out).mono ?_
  rintro e w2 ⟨rfl, b2⟩
  have S2 : Hid (Blk w.heap.size 24 (btL b (.slice ao L cap)) w2 ∧ Below w.heap.size w w2) := ⟨NB.out.below b2, below_trans BA.out b2⟩
  clear b2 NB BA
  by_cases hb : b.Has
  · rw [decide_eq_true hb]
    have HB : Hid b.Has := hb
    clear hb
    go_wp2_with (refine step_load rfl 24 _ rfl w.heap.size 0 rfl (btL b (.slice ao L cap)) _ (Blk.all S2.out.1) Tryd.underlying24 rfl (sizeBt _ _) ?_)
    refine (TB.out HB.out w2 S2.out.2).mono ?_
    rintro e w3 ⟨a3, n3, c3, rfl, r3, t3⟩
    have S3 : Hid (RowB 5 w.heap.size w3 (.slice a3 n3 c3) (fileB y m k b) ∧ Below w.heap.size w w3) := ⟨RowV.mono r3 S2.out.2.size, below_trans S2.out.2 (t3.below (Nat.le_refl _))⟩
    clear r3 t3
    go_wp2_with fail
    go_ret2
    unfold FmtAns
    rw [if_pos HB.out]
    exact ⟨_, _, _, rfl, S3.out.1, S3.out.2⟩
  · rw [decide_eq_false hb]
    have HB : Hid (¬ b.Has) := hb
    clear hb
    go_wp2_with fail
    go_ret2
    unfold FmtAns
    rw [if_neg HB.out]
    exact ⟨rfl, S2.out.2⟩
end Go.Proofs.YtnjpmihffenkcaaDoor
