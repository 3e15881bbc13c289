/-
  Ours: the reference's Format.
-/
import Derived.Test.YtnjpmihffenkcaaDoorLbRfl
import Derived.Test.YtnjpmihffenkcaaDoorLbRfh
import Derived.Test.YtnjpmihffenkcaaDoorLbTll
import Derived.Test.YtnjpmihffenkcaaDoorCalRef2
namespace Go.Proofs.YtnjpmihffenkcaaDoor
open Go.RowKit LbM LbF CalM
theorem bv_one (bs : List Nat) : ∀ u ∈ bs.map bv, u.oneCell' = true := fun u hu => by obtain ⟨b, _, rfl⟩ := List.mem_map.1 hu; rfl
set_option maxRecDepth 20000 in
set_option maxHeartbeats 8000000 in
theorem rformat_at (b : Bt) (y m k : Int) (ho : b.Has → Ok y m k ∧ dA y m + k = b.day) (hl : b.its.length ≤ 1000000000) (v : Value) (w : World) (h : RdI w v b.its) :
    Calls Tryd.prog 9 #[btV b v] w (FmtAns b (fileB y m k b) w) := by
  obtain ⟨i0, hi, hz0, hz1, hz2⟩ := info_parts infoB
  have HF : Hid (∀ w', Below w.heap.size w w' → Calls Tryd.prog 16 #[btV b v] w' fun e w2 => e = .returned (.bool (decide b.Has)) ∧ Below w'.heap.size w' w2) := fun w' q => rhas_at b v w' hl (h.later q)
  have NB : Hid (Blk w.heap.size 24 (btL b v) (w.alloc (.cells #[.int .i64 b.day, .int .i64 b.num, v] 24))) := Blk.new 24 (btL b v) w
  have BA : Hid (Below w.heap.size w (w.alloc (.cells #[.int .i64 b.day, .int .i64 b.num, v] 24))) := below_alloc w _
  by_cases hb : b.Has
  · have HB : Hid b.Has := hb
    have ho1 := ho hb
    have CIV : Hid (∀ w', Calls Tryd.prog 22 #[.int .i64 b.day] w' fun e w2 => e = .returned (.tuple #[.agg #[.int .i64 y, .int .i64 m, .int .i64 k], .bool true]) ∧ ∃ o, w2 = w'.alloc o) := fun w' => refCivil_at y m k b.day ho1.1 ho1.2 w'
    have CN : Hid (∀ (N : Nat) (w' : World), N ≤ 999999 → Calls Tryd.prog 24 #[.int .i64 (N : Int)] w' fun e w2 => e = .returned (.tuple #[.int .i64 ((cd6 N : Nat) : Int), .bool true]) ∧ Below w'.heap.size w' w2) := fun N w' hN => rcheck_at N hN w'
    have AL : Hid (∀ (kk : Nat) (c : Int) (ns : List Nat) (N : Nat) (w' : World) (n : Nat), c = (ltr kk : Int) → fits (wid kk) ns → Blk N 54 (prL (wid kk) ns) w' → ns.length = n → Calls Tryd.prog 23 #[.int .u8 c, .slice (some ⟨N, 0, none⟩) n n] w' (NewS w' (lin kk ns))) := fun kk c ns N w' n h1 h2 h3 h4 => by subst h1; exact rline_at kk ns h2 N w' h3 n h4
    have hb' := hb
    unfold Bt.Has at hb'
    obtain ⟨-, -, n1, n2, l1, l2, ok⟩ := hb'
    have TO : Hid (∀ w', Below w.heap.size w w' → Calls Tryd.prog 25 #[v] w' fun e w2 => e = .returned (.tuple #[.int .i64 (sumA b.its : Int), .int .i64 ((sumH b.its % 10000000000 : Nat) : Int)]) ∧ w' = w2) := fun w' q => rtotals_at b.its v w' l2 ok (h.later q)
    obtain ⟨ao, cap, rfl, hcap, hno, H⟩ := h
    have CE : Hid (∀ w', Below w.heap.size w w' → ∀ (i : Nat) (x : It), b.its[i]? = some x → ∃ g o, ao = some ⟨g, o, none⟩ ∧ w'.rangeAt g (o + i * 2) (itL x)) := fun w' hb i x hi => by
      obtain ⟨g, o, e, lt, r⟩ := H i x hi
      exact ⟨g, o, e, range_later r lt hb⟩
    have hf0 := head_fits ho1.1 ⟨n1, n2⟩
    have hft := tot_fits l2 ok
    have hoo := ho1.1
    unfold Ok at hoo
    obtain ⟨yn, rfl⟩ : ∃ n : Nat, y = (n : Int) := ⟨y.toNat, by omega⟩
    obtain ⟨mn, rfl⟩ : ∃ n : Nat, m = (n : Int) := ⟨m.toNat, by omega⟩
    obtain ⟨kn, rfl⟩ : ∃ n : Nat, k = (n : Int) := ⟨k.toNat, by omega⟩
    clear ho ho1 hoo
    obtain ⟨day, num, its⟩ := b
    simp only at *
    obtain ⟨nn, rfl⟩ : ∃ n : Nat, num = (n : Int) := ⟨num.toNat, by omega⟩
    have DL : Hid (∀ i, i ≤ its.length → (dets 0 (its.take i)).length ≤ 25 * i) := dets_le its l2 ok
    obtain ⟨L, hL⟩ : ∃ L, its.length = L := ⟨_, rfl⟩
    have GI : Hid (∀ i, i < L → ∃ l a : Nat, its[i]? = some ⟨(l : Int), (a : Int)⟩ ∧ l ≤ 999999 ∧ dets 0 (its.take (i + 1)) = dets 0 (its.take i) ++ lin 1 [i + 1, l, cd6 l, a] ∧ fits (wid 1) [i + 1, l, cd6 l, a]) := fun i hi => by
      have hx : its[i]? = some (its[i]'(by omega)) := List.getElem?_eq_getElem (by omega)
      have hok := ok _ (List.mem_of_getElem? hx)
      have hfi := item_fits hok (i := i) (by omega)
      obtain ⟨l, a, e, hl, ha⟩ := its_nat hok
      rw [e] at hx hfi
      have := dets_snoc hx
      unfold itN at this hfi
      simp only [Int.toNat_natCast] at this hfi
      exact ⟨l, a, hx, hl, this, hfi⟩
    have TK : Hid (its.take L = its) := by show _ = _; rw [← hL, List.take_length]
    have FB : Hid (fileB yn mn kn ⟨day, nn, its⟩ = lin 0 [yn, mn, kn, nn] ++ dets 0 its ++ lin 2 (totN its)) := by
      show _ = _
      unfold fileB headB
      simp only [Int.toNat_natCast]
    have TN : Hid (totN its = [L, sumA its, sumH its % 10000000000]) := by show _ = _; unfold totN; rw [hL]
    simp only [Int.toNat_natCast] at hf0
    have HD : Hid ((lin 0 [yn, mn, kn, nn]).length = 16) := lin_len hf0
    have F0 : Hid (fits (wid 0) [yn, mn, kn, nn]) := hf0
    have FT : Hid (fits (wid 2) (totN its) ∧ (lin 2 (totN its)).length = 32) := ⟨hft, lin_len hft⟩
    have FL1 : Hid (∀ i l a : Nat, fits (wid 1) [i + 1, l, cd6 l, a] → (lin 1 [i + 1, l, cd6 l, a]).length = 25) := fun i l a h => lin_len h
    generalize hans : FmtAns ⟨day, nn, its⟩ (fileB yn mn kn ⟨day, nn, its⟩) w = ANS
    have AN : Hid (∀ a n c w', RowB 5 w.heap.size w' (.slice a n c) (lin 0 [yn, mn, kn, nn] ++ dets 0 its ++ lin 2 (totN its)) → Below w.heap.size w w' → ANS (.returned (.tuple #[.slice a n c, .bool true])) w') := fun a n c w' h1 h2 => by
      rw [← hans]
      unfold FmtAns
      rw [if_pos HB.out, FB.out]
      exact ⟨a, n, c, rfl, h1, h2⟩
    clear hb hf0 hft H hno n1 n2 l1 ok hans FB
    rw [hL] at hcap l2 DL
    have hdec : decide (⟨day, nn, its⟩ : Bt).Has = true := decide_eq_true HB.out
    simp only [hL] at *
    rw [hdec] at HF
    clear hL hdec hl
    generalize sumA its = SA at *
    generalize sumH its % 10000000000 = SH at *
    go_enter Tryd.func9, Tryd.ntmps9
    go_upto_region 1 with fail
    generalize w.alloc (.cells #[.int .i64 day, .int .i64 nn, .slice ao L cap] 24) = w1 at *
    go_wp2_with (refine step_load rfl 24 _ rfl w.heap.size 0 rfl [.int .i64 day, .int .i64 nn, .slice ao L cap] _ (Blk.all NB.out) Tryd.underlying24 rfl (sizeBt ⟨0, 0, []⟩ undef) ?_)
    refine (HF.out w1 BA.out).mono ?_
    rintro e w2 ⟨rfl, b2⟩
    have S2 : Hid (Blk w.heap.size 24 [.int .i64 day, .int .i64 nn, .slice ao L cap] w2 ∧ Below w.heap.size w w2) := ⟨NB.out.below b2, below_trans BA.out b2⟩
    clear b2 NB BA HF
    have c0 := S2.out.1.cell 0 _ rfl
    go_wp2_with fail
    refine (CIV.out w2).mono ?_
    rintro e w3 ⟨rfl, ob, hw3⟩
    have b3 : Below w2.heap.size w2 w3 := by rw [hw3]; exact below_alloc _ _
    have S3 : Hid (Blk w.heap.size 24 [.int .i64 day, .int .i64 nn, .slice ao L cap] w3 ∧ Below w.heap.size w w3) := ⟨S2.out.1.below b3, below_trans S2.out.2 b3⟩
    have DB : Hid (Blk w3.heap.size 50 (dtL 0 0 0) (w3.alloc (.cells #[.int .i64 0, .int .i64 0, .int .i64 0] 50))) := Blk.new 50 (dtL 0 0 0) w3
    clear hw3 b3 S2 c0 CIV
    go_upto_region 4 with (refine step_store rfl 50 _ _ rfl w3.heap.size 0 50 (dtL 0 0 0) (dtL yn mn kn) rfl rfl DB.out (Nat.le_refl _) (sizeDt _ _ _) (oneDt _ _ _) ?_; intro w4 nb4 g4)
    have n4 : Blk w3.heap.size 50 (dtL yn mn kn) w4 := nb4
    have hs3 := S3.out.2.size
    have S4 : Hid (Blk w.heap.size 24 [.int .i64 day, .int .i64 nn, .slice ao L cap] w4 ∧ Below w.heap.size w w4) := ⟨(S3.out.1.below (below_alloc _ _)).grown g4 (fun e => by injection e with e; have := S3.out.1.lt; omega), below_row (S3.out.2.alloc S3.out.2.size _) g4 hs3⟩
    have d0 := n4.cell 0 _ rfl
    have d1 := n4.cell 1 _ rfl
    have d2 := n4.cell 2 _ rfl
    have c1 := S4.out.1.cell 1 _ rfl
    clear nb4 n4 g4 DB S3 hs3
    have b5 := below_alloc w4 (.cells #[.int .i64 yn, .int .i64 4, .int .i64 mn, .int .i64 2, .int .i64 kn, .int .i64 2, .int .i64 nn, .int .i64 6] 54)
    have S5 : Hid (Blk w.heap.size 24 [.int .i64 day, .int .i64 nn, .slice ao L cap] (w4.alloc (.cells #[.int .i64 yn, .int .i64 4, .int .i64 mn, .int .i64 2, .int .i64 kn, .int .i64 2, .int .i64 nn, .int .i64 6] 54)) ∧ Below w.heap.size w (w4.alloc (.cells #[.int .i64 yn, .int .i64 4, .int .i64 mn, .int .i64 2, .int .i64 kn, .int .i64 2, .int .i64 nn, .int .i64 6] 54)) ∧ Blk w4.heap.size 54 (prL (wid 0) [yn, mn, kn, nn]) (w4.alloc (.cells #[.int .i64 yn, .int .i64 4, .int .i64 mn, .int .i64 2, .int .i64 kn, .int .i64 2, .int .i64 nn, .int .i64 6] 54))) :=
      ⟨S4.out.1.below b5, below_trans S4.out.2 b5, Blk.new 54 (prL (wid 0) [yn, mn, kn, nn]) w4⟩
    clear b5
    go_wp2_with fail
    refine (AL.out 0 72 [yn, mn, kn, nn] w4.heap.size _ 4 rfl F0.out S5.out.2.2 rfl).mono ?_
    rintro e w6 ⟨a6, n6, k6, rfl, r6, b6⟩
    have S6 : Hid (Blk w.heap.size 24 [.int .i64 day, .int .i64 nn, .slice ao L cap] w6 ∧ Below w.heap.size w w6 ∧ RdB w6 (.slice a6 n6 k6) (lin 0 [yn, mn, kn, nn])) := ⟨S5.out.1.below b6, below_trans S5.out.2.1 b6, RowV.rd r6⟩
    have rd6 := S6.out.2.2
    have hs6 := S6.out.2.1.size
    have l1 : (([] : List Nat).map bv).length + ((lin 0 [yn, mn, kn, nn]).map bv).length ≤ maxLen := by rw [List.length_map, List.length_map, HD.out]; decide
    have l2 : ((([] : List Nat).map bv).length + ((lin 0 [yn, mn, kn, nn]).map bv).length) * 1 ≤ 140737488355328 := by rw [List.length_map, List.length_map, HD.out]; decide
    have hy := bv_one (lin 0 [yn, mn, kn, nn])
    clear r6 b6 S5 d0 d1 d2 c1 S4 F0
    go_upto_region 7 with (at_builtin; refine wpList_catV rfl (.tmp 37) (.tmp 38) 26 rfl 5 i0 (.int .u8 0) 1 underB hi hz0 hz1 hz2 rfl w.heap.size (.slice none 0 0) _ (([] : List Nat).map bv) _ hy rfl (RowV.nil _ _ _) hs6 rfl rd6 l1 l2 ?_; intro v7 w7 r7 g7)
    have S7 : Hid (Blk w.heap.size 24 [.int .i64 day, .int .i64 nn, .slice ao L cap] w7 ∧ Below w.heap.size w w7 ∧ RowB 5 w.heap.size w7 v7 (lin 0 [yn, mn, kn, nn])) := ⟨S6.out.1.below (below_none g7), below_trans S6.out.2.1 (below_none g7), r7⟩
    obtain ⟨a7, n7, c7, rfl⟩ := RowV.val r7
    clear r7 g7 rd6 hs6 l1 l2 hy S6
    go_wp2_with fail
    go_loopw [6, 8] (fun vf vk wr => ∃ (i : Nat) (a : Option Addr) (n c : Nat), vk = .int .i64 (i : Int) ∧ i ≤ L ∧ vf = .slice a n c ∧ Hid (Blk w.heap.size 24 [.int .i64 day, .int .i64 nn, .slice ao L cap] wr ∧ Below w.heap.size w wr ∧ RowB 5 w.heap.size wr (.slice a n c) (lin 0 [yn, mn, kn, nn] ++ dets 0 (its.take i)))) (fun _ vk _ => L - (intOf vk).toNat)
    case atStart => exact ⟨0, a7, n7, c7, rfl, by omega, rfl, S7.out.1, S7.out.2.1, by simpa [dets] using S7.out.2.2⟩
    case round =>
      obtain ⟨i, a, n, c, rfl, hik, rfl, HR⟩ := hrel
      clear S7
      have c2 := HR.out.1.cell 2 _ rfl
      by_cases hlt : (i : Int) < (L : Int)
      · obtain ⟨l, am, hx, hl1, ed, hfi⟩ := GI.out i (by omega)
        obtain ⟨g, o, rfl, rg⟩ := CE.out wr HR.out.2.1 i _ hx
        have RG : Hid (wr.rangeAt g (o + i * 2) (itL ⟨(l : Int), (am : Int)⟩)) := rg
        have ED : Hid (dets 0 (its.take (i + 1)) = dets 0 (its.take i) ++ lin 1 [i + 1, l, cd6 l, am]) := ed
        have FI : Hid (fits (wid 1) [i + 1, l, cd6 l, am]) := hfi
        have NB2 : Hid (Blk wr.heap.size 43 itZ (wr.alloc (.cells #[.int .i64 0, .int .i64 0] 43))) := Blk.new 43 itZ wr
        clear rg hx ed hfi
        go_upto_region 11 with (first
          | (refine step_load rfl 43 _ rfl g (o + i * 2) rfl (itL ⟨(l : Int), (am : Int)⟩) _ RG.out Tryd.underlying43 rfl (sizeIt _) ?_)
          | (refine step_store rfl 43 _ _ rfl wr.heap.size 0 43 itZ (itL ⟨(l : Int), (am : Int)⟩) rfl rfl NB2.out (Nat.le_refl _) (sizeIt _) (oneIt _) ?_; intro w2 nb2 g2))
        have b2 : Below wr.heap.size wr w2 := below_row (below_alloc _ _) g2 (Nat.le_refl _)
        have T6 : Hid (Blk wr.heap.size 43 (itL ⟨(l : Int), (am : Int)⟩) w2 ∧ Blk w.heap.size 24 [.int .i64 day, .int .i64 nn, .slice (some ⟨g, o, none⟩) L cap] w2 ∧ Below w.heap.size w w2 ∧ RowB 5 w.heap.size w2 (.slice a n c) (lin 0 [yn, mn, kn, nn] ++ dets 0 (its.take i))) := ⟨nb2, HR.out.1.below b2, below_trans HR.out.2.1 b2, HR.out.2.2.later b2⟩
        have e0 := T6.out.1.cell 0 _ rfl
        clear nb2 g2 NB2 b2 HR RG c2
        go_wp2_with fail
        refine (CN.out l w2 hl1).mono ?_
        rintro e w3 ⟨rfl, b3⟩
        have T7 : Hid (Blk wr.heap.size 43 (itL ⟨(l : Int), (am : Int)⟩) w3 ∧ Blk w.heap.size 24 [.int .i64 day, .int .i64 nn, .slice (some ⟨g, o, none⟩) L cap] w3 ∧ Below w.heap.size w w3 ∧ RowB 5 w.heap.size w3 (.slice a n c) (lin 0 [yn, mn, kn, nn] ++ dets 0 (its.take i))) := ⟨T6.out.1.below b3, T6.out.2.1.below b3, below_trans T6.out.2.2.1 b3, T6.out.2.2.2.later b3⟩
        have f0 := T7.out.1.cell 0 _ rfl
        have f1 := T7.out.1.cell 1 _ rfl
        clear b3 T6 e0
        have b8 : Below w3.heap.size w3 (w3.alloc (.cells #[.int .i64 ((i : Int) + 1), .int .i64 4, .int .i64 (l : Int), .int .i64 6, .int .i64 ((cd6 l : Nat) : Int), .int .i64 1, .int .i64 (am : Int), .int .i64 12] 54)) := below_alloc _ _
        have T8 : Hid (Blk w.heap.size 24 [.int .i64 day, .int .i64 nn, .slice (some ⟨g, o, none⟩) L cap] (w3.alloc (.cells #[.int .i64 ((i : Int) + 1), .int .i64 4, .int .i64 (l : Int), .int .i64 6, .int .i64 ((cd6 l : Nat) : Int), .int .i64 1, .int .i64 (am : Int), .int .i64 12] 54)) ∧ Below w.heap.size w (w3.alloc (.cells #[.int .i64 ((i : Int) + 1), .int .i64 4, .int .i64 (l : Int), .int .i64 6, .int .i64 ((cd6 l : Nat) : Int), .int .i64 1, .int .i64 (am : Int), .int .i64 12] 54)) ∧ RowB 5 w.heap.size (w3.alloc (.cells #[.int .i64 ((i : Int) + 1), .int .i64 4, .int .i64 (l : Int), .int .i64 6, .int .i64 ((cd6 l : Nat) : Int), .int .i64 1, .int .i64 (am : Int), .int .i64 12] 54)) (.slice a n c) (lin 0 [yn, mn, kn, nn] ++ dets 0 (its.take i)) ∧ Blk w3.heap.size 54 (prL (wid 1) [i + 1, l, cd6 l, am]) (w3.alloc (.cells #[.int .i64 ((i : Int) + 1), .int .i64 4, .int .i64 (l : Int), .int .i64 6, .int .i64 ((cd6 l : Nat) : Int), .int .i64 1, .int .i64 (am : Int), .int .i64 12] 54))) :=
          ⟨T7.out.2.1.below b8, below_trans T7.out.2.2.1 b8, T7.out.2.2.2.later b8, Blk.new 54 (prL (wid 1) [i + 1, l, cd6 l, am]) w3⟩
        clear b8
        go_wp2_with fail
        refine (AL.out 1 68 [i + 1, l, cd6 l, am] w3.heap.size _ 4 rfl FI.out T8.out.2.2.2 rfl).mono ?_
        rintro e w4 ⟨a4, n4, c4, rfl, r4, b4⟩
        have T9 : Hid (Blk w.heap.size 24 [.int .i64 day, .int .i64 nn, .slice (some ⟨g, o, none⟩) L cap] w4 ∧ Below w.heap.size w w4 ∧ RowB 5 w.heap.size w4 (.slice a n c) (lin 0 [yn, mn, kn, nn] ++ dets 0 (its.take i)) ∧ RdB w4 (.slice a4 n4 c4) (lin 1 [i + 1, l, cd6 l, am])) := ⟨T8.out.1.below b4, below_trans T8.out.2.1 b4, T8.out.2.2.1.later b4, RowV.rd r4⟩
        have own1 := T9.out.2.2.1
        have rd1 := T9.out.2.2.2
        have hsz1 := T9.out.2.1.size
        have hLe := FL1.out i l am FI.out
        have hDe := DL.out i (by omega)
        have l1 : ((lin 0 [yn, mn, kn, nn] ++ dets 0 (its.take i)).map bv).length + ((lin 1 [i + 1, l, cd6 l, am]).map bv).length ≤ maxLen := by rw [List.length_map, List.length_map, hLe, List.length_append, HD.out]; unfold maxLen; omega
        have l2 : (((lin 0 [yn, mn, kn, nn] ++ dets 0 (its.take i)).map bv).length + ((lin 1 [i + 1, l, cd6 l, am]).map bv).length) * 1 ≤ 140737488355328 := by rw [List.length_map, List.length_map, hLe, List.length_append, HD.out]; omega
        have hy1 := bv_one (lin 1 [i + 1, l, cd6 l, am])
        clear r4 b4 T8 T7 f0 f1 hLe hDe
        go_wp2_with (at_builtin; refine wpList_catV rfl (.tmp 71) (.tmp 72) 26 rfl 5 i0 (.int .u8 0) 1 underB hi hz0 hz1 hz2 rfl w.heap.size _ _ _ _ hy1 rfl own1 hsz1 rfl rd1 l1 l2 ?_; intro v5 w5 r5 g5)
        have R5 : Hid (Blk w.heap.size 24 [.int .i64 day, .int .i64 nn, .slice (some ⟨g, o, none⟩) L cap] w5 ∧ Below w.heap.size w w5 ∧ RowB 5 w.heap.size w5 v5 (lin 0 [yn, mn, kn, nn] ++ dets 0 (its.take (i + 1)))) := ⟨T9.out.1.tg (TG.grown own1 g5) (by decide), below_grown T9.out.2.1 own1 (Nat.le_refl _) hsz1 g5, by rw [ED.out, ← List.append_assoc]; simpa [RowB] using r5⟩
        obtain ⟨a5, n5, c5, rfl⟩ := RowV.val R5.out.2.2
        clear r5 g5 own1 rd1 l1 l2 hsz1 T9 hy1
        go_wp2_with fail
        go_roundw
        case rel => exact ⟨i + 1, a5, n5, c5, by go_num, by omega, rfl, R5⟩
        case measure => simp [intOf]; omega
      · obtain rfl : i = L := by omega
        have HS : Hid (Blk w.heap.size 24 [.int .i64 day, .int .i64 nn, .slice ao i cap] wr ∧ Below w.heap.size w wr ∧ RowB 5 w.heap.size wr (.slice a n c) (lin 0 [yn, mn, kn, nn] ++ dets 0 its)) := by have := HR.out; rw [TK.out] at this; exact this
        have hD := DL.out i (Nat.le_refl _)
        rw [TK.out] at hD
        have DE : Hid ((dets 0 its).length ≤ 25 * i) := hD
        clear HR hD
        go_wp2_with fail
        refine (TO.out wr HS.out.2.1).mono ?_
        rintro e w9 ⟨rfl, rfl⟩
        have b8 : Below wr.heap.size wr (wr.alloc (.cells #[.int .i64 (i : Int), .int .i64 4, .int .i64 (SA : Int), .int .i64 16, .int .i64 (SH : Int), .int .i64 10] 54)) := below_alloc _ _
        have T8 : Hid (Below w.heap.size w (wr.alloc (.cells #[.int .i64 (i : Int), .int .i64 4, .int .i64 (SA : Int), .int .i64 16, .int .i64 (SH : Int), .int .i64 10] 54)) ∧ RowB 5 w.heap.size (wr.alloc (.cells #[.int .i64 (i : Int), .int .i64 4, .int .i64 (SA : Int), .int .i64 16, .int .i64 (SH : Int), .int .i64 10] 54)) (.slice a n c) (lin 0 [yn, mn, kn, nn] ++ dets 0 its) ∧ Blk wr.heap.size 54 (prL (wid 2) [i, SA, SH]) (wr.alloc (.cells #[.int .i64 (i : Int), .int .i64 4, .int .i64 (SA : Int), .int .i64 16, .int .i64 (SH : Int), .int .i64 10] 54))) :=
          ⟨below_trans HS.out.2.1 b8, HS.out.2.2.later b8, Blk.new 54 (prL (wid 2) [i, SA, SH]) wr⟩
        clear b8
        go_wp2_with fail
        refine (AL.out 2 84 [i, SA, SH] wr.heap.size _ 3 rfl (by have := FT.out.1; rwa [TN.out] at this) T8.out.2.2 rfl).mono ?_
        rintro e w4 ⟨a4, n4, c4, rfl, r4, b4⟩
        have T9 : Hid (Below w.heap.size w w4 ∧ RowB 5 w.heap.size w4 (.slice a n c) (lin 0 [yn, mn, kn, nn] ++ dets 0 its) ∧ RdB w4 (.slice a4 n4 c4) (lin 2 (totN its))) := ⟨below_trans T8.out.1 b4, T8.out.2.1.later b4, by rw [TN.out]; exact RowV.rd r4⟩
        have own1 := T9.out.2.1
        have rd1 := T9.out.2.2
        have hsz1 := T9.out.1.size
        have hDe := DE.out
        have l1 : ((lin 0 [yn, mn, kn, nn] ++ dets 0 its).map bv).length + ((lin 2 (totN its)).map bv).length ≤ maxLen := by rw [List.length_map, List.length_map, FT.out.2, List.length_append, HD.out]; unfold maxLen; omega
        have l2 : (((lin 0 [yn, mn, kn, nn] ++ dets 0 its).map bv).length + ((lin 2 (totN its)).map bv).length) * 1 ≤ 140737488355328 := by rw [List.length_map, List.length_map, FT.out.2, List.length_append, HD.out]; omega
        have hy1 := bv_one (lin 2 (totN its))
        clear r4 b4 T8 HS hDe
        go_wp2_with (at_builtin; refine wpList_catV rfl (.tmp 90) (.tmp 91) 26 rfl 5 i0 (.int .u8 0) 1 underB hi hz0 hz1 hz2 rfl w.heap.size _ _ _ _ hy1 rfl own1 hsz1 rfl rd1 l1 l2 ?_; intro v5 w5 r5 g5)
        have R5 : Hid (RowB 5 w.heap.size w5 v5 (lin 0 [yn, mn, kn, nn] ++ dets 0 its ++ lin 2 (totN its)) ∧ Below w.heap.size w w5) := ⟨by simpa [RowB] using r5, below_grown T9.out.1 own1 (Nat.le_refl _) hsz1 g5⟩
        obtain ⟨a5, n5, c5, rfl⟩ := RowV.val R5.out.1
        clear r5 g5 own1 rd1 l1 l2 hsz1 T9 hy1
        go_wp2_with fail
        exact AN.out _ _ _ _ R5.out.1 R5.out.2
  · have HB : Hid (¬ b.Has) := hb
    have hdec : decide b.Has = false := decide_eq_false hb
    rw [hdec] at HF
    clear hb ho hl hdec
    obtain ⟨ao, cap, rfl, -, -, -⟩ := h
    generalize b.its.length = L at *
    go_enter Tryd.func9, Tryd.ntmps9
    go_upto_region 1 with fail
    generalize w.alloc (.cells #[.int .i64 b.day, .int .i64 b.num, .slice ao L cap] 24) = w1 at *
    go_wp2_with (refine step_load rfl 24 _ rfl w.heap.size 0 rfl (btL b (.slice ao L cap)) _ (Blk.all NB.out) Tryd.underlying24 rfl (sizeBt _ _) ?_)
    refine (HF.out w1 BA.out).mono ?_
    rintro e w2 ⟨rfl, b2⟩
    have B2 : Hid (Below w.heap.size w w2) := below_trans BA.out b2
    clear b2
    go_wp2_with fail
    go_ret2
    unfold FmtAns
    rw [if_neg HB.out]
    exact ⟨rfl, B2.out⟩
end Go.Proofs.YtnjpmihffenkcaaDoor
