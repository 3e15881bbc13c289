/-
  Ours: the walk of FrameJoins.
-/
import Derived.Test.YtbalmfghihgmgadDoorFrmJoins
namespace Go.Proofs.YtbalmfghihgmgadDoor
open Go.RowKit

theorem map_take_room (xs : List Room) : (xs.map fun x => (roomL x.p).take x.p.length) = xs.map Room.p := List.map_congr_left fun x _ => roomL_take x.p
theorem room_len (xs : List Room) : ∀ x ∈ xs, (roomL x.p).length = x.p.length + 5 := fun x _ => roomL_len x.p

theorem rdm' {base : Nat} {W : World} {vm : Value} {xs : List Room} (h : RowV 22 base W vm (xs.map Room.mv)) (fs : Room → List Nat) (hr : ∀ x ∈ xs, RdB W x.mv (fs x)) (hf : ∀ x ∈ xs, (fs x).length = x.p.length) : RdR W vm (xs.map fs) := by
  obtain ⟨ao, cap, e, hc, _, H⟩ := RowV.rd h
  subst e
  simp only [List.length_map] at hc H
  refine ⟨ao, cap, by simp, by simpa using hc, fun i hi => ?_⟩
  rw [List.length_map] at hi
  obtain ⟨g, o, e1, lt, e2⟩ := H i hi
  have hm : xs[i] ∈ xs := List.getElem_mem _
  have hl := hf _ hm
  have eg : (xs.map fs).getD i [] = fs xs[i] := by rw [List.getD_eq_getElem?_getD, List.getElem?_map, List.getElem?_eq_getElem hi]; rfl
  rw [eg]
  refine ⟨g, o, some ⟨xs[i].g, 0, none⟩, xs[i].c, e1, lt, ?_, ?_⟩
  · rw [e2, List.getElem_map, hl]; rfl
  · rw [hl]; exact hr _ hm

set_option maxRecDepth 100000 in
set_option maxHeartbeats 4000000 in
theorem joins_any (cs : List (List Nat)) (v : Value) (w : World) (hs : Sml cs) (h : RdR w v cs) (hT : TabS w) :
    Calls Tryd.prog 4 #[v] w fun e w' => e = .returned (.bool true) ∧ Below w.heap.size w w' := by
  obtain ⟨i0, hi, hz0, hz1, hz2⟩ := info_parts infoS
  obtain ⟨ao, cap, rfl, hcap⟩ := h.len
  have SZ : Hid (Calls Tryd.prog 12 #[.slice ao cs.length cap] w fun e w' => e = .returned (.int .i64 ((CrcM.sizeL cs : Nat) : Int)) ∧ w' = w) := size_at cs _ w hs h
  by_cases hz : (6000000 : Int) < ((CrcM.sizeL cs : Nat) : Int)
  · clear h hT hs
    generalize cs.length = L at *
    generalize CrcM.sizeL cs = S at *
    go_enter Tryd.func4, Tryd.ntmps4
    go_wp2_with fail
    refine SZ.out.mono ?_
    rintro e w0 ⟨rfl, rfl⟩
    go_wp2_with fail
    go_ret
    exact ⟨rfl, Below.refl _ _⟩
  · have PAY : Hid (∀ i, i < cs.length → ∃ g o a' c', ao = some ⟨g, o, none⟩ ∧ (∀ w'', Below w.heap.size w w'' → w''.cell? ⟨g, o + i, none⟩ = some (.slice a' (cs.getD i []).length c')) ∧ (∀ w'', Below w.heap.size w w'' → Calls Tryd.prog 13 #[.slice a' (cs.getD i []).length c'] w'' (fun e w3 => e = .returned (.bool true) ∧ Below w''.heap.size w'' w3)) ∧ ∀ w'', Below w.heap.size w w'' → Calls Tryd.prog 6 #[.slice a' (cs.getD i []).length c'] w'' (NewB w'' (roomL (cs.getD i [])))) := fun i hi => by
      obtain ⟨ao', cc, e, _, H⟩ := h
      injection e with e1 e2 e3
      subst e1 e3
      obtain ⟨g, o, a', c', h1, lt, h2, h3⟩ := H i hi
      exact ⟨g, o, a', c', h1, fun w'' hb' => (hb'.cell (p := ⟨g, o + i, none⟩) lt).trans h2, fun w'' hb' => encodes_at _ _ w'' (hs.bytD i) (by have := hs.lenD i; omega) (Rd.later h3 hb') (hT.below hb'), fun w'' hb' => roomy_at _ _ w'' (by have := hs.lenD i; omega) (Rd.later h3 hb')⟩
    have JN : Hid (∀ (ds : List (List Nat)) w' v, Sml ds → CrcM.sizeL ds ≤ 1000000000 → Below w.heap.size w w' → RdR w' v ds → Calls Tryd.prog 14 #[v] w' (NewT w' (CrcM.join ds))) := fun ds w' v h1 h2 hb hr => join_at ds v w' h1 h2 hr (hT.below hb)
    have RJ : Hid (∀ (ds : List (List Nat)) w' v, Sml ds → CrcM.sizeL ds ≤ 1000000000 → RdR w' v ds → Calls Tryd.prog 15 #[v] w' (NewT w' (CrcM.join ds))) := fun ds w' v h1 h2 hr => rjoin_at ds v w' h1 h2 hr
    have RDX : Hid (∀ w', Below w.heap.size w w' → RdR w' (.slice ao cs.length cap) cs) := fun w' hb => h.later hb
    have HS : Hid (Sml cs) := hs
    have HZ : Hid ((CrcM.join cs).length ≤ 6000000) := by show _ ≤ _; unfold CrcM.sizeL at hz; omega
    have HN : Hid (∀ i, i < cs.length → cs.take (i + 1) = cs.take i ++ [cs.getD i []]) := fun i hi => take_next cs i hi
    have HF : Hid (cs.take cs.length = cs) := List.take_of_length_le (Nat.le_refl _)
    have HD : Hid (∀ i, (cs.getD i []).length ≤ 1048576) := hs.lenD
    have HTL : Hid (∀ k, k ≤ cs.length → (cs.take k).length = k) := fun k hk => by rw [List.length_take]; omega
    have hc := hs.cnt
    clear h hT hs
    generalize hSL : CrcM.sizeL cs = SL at *
    clear hSL
    generalize hL : cs.length = L at *
    have HL : Hid (cs.length = L) := hL
    clear hL
    have hz' : ¬ (6000000 : Int) < (SL : Int) := hz
    clear hz
    go_enter Tryd.func4, Tryd.ntmps4
    go_wp2_with fail
    refine SZ.out.mono ?_
    rintro e w0 ⟨rfl, rfl⟩
    clear SZ
    go_wp2_with fail
    go_loopw [3] (fun vk wr => ∃ k : Nat, vk = .int .i64 (k : Int) ∧ k ≤ L ∧ Below w0.heap.size w0 wr) (fun vk _ => L - (intOf vk).toNat)
    case atStart => exact ⟨0, rfl, by omega, Below.refl _ _⟩
    case round =>
      obtain ⟨k, rfl, hk, hnx⟩ := hrel
      by_cases hlt : (k : Int) < (L : Int)
      · obtain ⟨g, o, a1, c1, rfl, d1, EN, _⟩ := PAY.out k (by omega)
        have d1' := d1 wr hnx
        have EN' : Hid (Calls Tryd.prog 13 #[.slice a1 (cs.getD k []).length c1] wr (fun e w'' => e = .returned (.bool true) ∧ Below wr.heap.size wr w'')) := EN wr hnx
        clear EN d1
        generalize (cs.getD k []).length = X at *
        go_wp2_with fail
        refine EN'.out.mono ?_
        rintro e w1 ⟨rfl, b1⟩
        have B1 : Below w0.heap.size w0 w1 := below_trans hnx b1
        clear b1 EN'
        go_wp2_with fail
        go_roundw
        case rel => exact ⟨k + 1, by go_num, by omega, B1⟩
        case measure => simp [intOf]; omega
      · obtain rfl : k = L := by omega
        have Bk := hnx
        clear hlt hk
        go_wp2_with fail
        go_loopw [4, 5, 6] (fun vr vm vk wr => ∃ (j : Nat) (xs : List Room), vk = .int .i64 (j : Int) ∧ j ≤ k ∧ Hid (JI w0.heap.size wr vr vm xs (fun x => roomL x.p)) ∧ Hid (xs.map Room.p = cs.take j) ∧ Below w0.heap.size w0 wr) (fun _ _ vk _ => k - (intOf vk).toNat)
        case atStart => exact ⟨0, [], rfl, by omega, ⟨RowV.nil _ _ _, RowV.nil _ _ _, (fun g e => by simp [Value.ownBlock] at e), (fun x hx => nomatch hx), List.Pairwise.nil⟩, rfl, Bk⟩
        case round =>
          clear Bk hnx
          obtain ⟨j, xs, rfl, hj, hJI, hxs, hnx⟩ := hrel
          have hsz := hnx.size
          by_cases hlt : (j : Int) < (k : Int)
          · obtain ⟨g, o, a1, c1, rfl, d1, _, RM⟩ := PAY.out j (by omega)
            have d1' := d1 wr hnx
            have RM' : Hid (Calls Tryd.prog 6 #[.slice a1 (cs.getD j []).length c1] wr (NewB wr (roomL (cs.getD j [])))) := RM wr hnx
            have HN' : Hid (cs.take (j + 1) = cs.take j ++ [cs.getD j []]) := HN.out j (by omega)
            have D1 : Hid (∀ w'', Below w0.heap.size w0 w'' → w''.cell? ⟨g, o + j, none⟩ = some (.slice a1 (cs.getD j []).length c1)) := d1
            have hXl := HD.out j
            have HXL : Hid (xs.length = j) := by show _ = _; rw [← List.length_map (f := Room.p), hxs.out]; exact HTL.out j hj
            have HRL : Hid ((roomL (cs.getD j [])).length = (cs.getD j []).length + 5) := roomL_len _
            clear RM d1
            generalize hp : cs.getD j [] = p at *
            clear hp
            go_wp2_with fail
            refine RM'.out.mono ?_
            rintro e w1 ⟨v1, rfl, r1, b1⟩
            obtain ⟨gg, cc, e1, hcc, _, _⟩ := RowV.own r1 (by rw [List.length_map, HRL.out]; omega)
            rw [List.length_map, HRL.out] at e1 hcc
            subst e1
            have J1 : Hid (JI w0.heap.size w1 u4 u5 xs (fun x => roomL x.p)) := hJI.out.later b1
            have X1 : Hid (RowB 5 w0.heap.size w1 (Room.rv ⟨gg, cc, p⟩) (roomL p)) := r1.mono hsz
            have GN : Hid (∀ y ∈ xs, y.g ≠ gg) := fun y hy e => by
              have h1 := (hJI.out.it y hy).block_lt (g := y.g) rfl
              have h2 := r1.block_ge (g := gg) rfl
              omega
            have B1 : Below w0.heap.size w0 w1 := below_trans hnx b1
            have BW : Hid (Below wr.heap.size wr w1) := b1
            have hs1 := B1.size
            have rr := J1.out.rr
            have l1 : (xs.map Room.rv).length + 1 ≤ maxLen := by have := HXL.out; rw [List.length_map]; unfold maxLen; omega
            have l2 : ((xs.map Room.rv).length + 1) * 24 ≤ 140737488355328 := by have := HXL.out; rw [List.length_map]; omega
            have m1 : (xs.map Room.mv).length + 1 ≤ maxLen := by have := HXL.out; rw [List.length_map]; unfold maxLen; omega
            have m2 : ((xs.map Room.mv).length + 1) * 24 ≤ 140737488355328 := by have := HXL.out; rw [List.length_map]; omega
            clear r1 b1 RM' hJI
            go_upto_region 15 with (at_builtin; refine wpList_pushN rfl (.tmp 43) (.tmp 45) 24 rfl 22 i0 (.slice none 0 0) 24 underS hi hz0 hz1 hz2 rfl w0.heap.size _ _ _ rfl rfl rr hs1 rfl l1 l2 ?_; intro v2 w2 r2 g2 n2)
            have R2 : Hid (RowV 22 w0.heap.size w2 v2 (xs.map Room.rv ++ [Room.rv ⟨gg, cc, p⟩])) := r2
            have G2 : Hid (w1.grownBy w2 u4.ownBlock) := g2
            have N2 : Hid (Near w1 u4 v2) := n2
            have B2 : Below w0.heap.size w0 w2 := below_grown B1 rr (Nat.le_refl _) hs1 g2
            have mm : RowV 22 w0.heap.size w2 u5 (xs.map Room.mv) := RowV.kept J1.out.mm g2 (fun g hg e => J1.out.ne g e hg)
            have d2 := D1.out w2 B2
            have hs2 := B2.size
            have hpc : p.length ≤ cc := by omega
            clear r2 g2 n2 rr l1 l2
            go_wp2_with (at_builtin; refine wpList_pushN rfl (.tmp 47) (.tmp 55) 24 rfl 22 i0 (.slice none 0 0) 24 underS hi hz0 hz1 hz2 rfl w0.heap.size _ _ _ rfl rfl mm hs2 rfl m1 m2 ?_; intro v3 w3 r3 g3 n3)
            have J3 : Hid (JI w0.heap.size w3 v2 v3 (xs ++ [⟨gg, cc, p⟩]) (fun x => roomL x.p)) := JI.push J1.out X1.out GN.out R2.out G2.out N2.out r3 g3 n3
            have B3 : Below w0.heap.size w0 w3 := below_grown B2 mm (Nat.le_refl _) hs2 g3
            have XS : Hid ((xs ++ [(⟨gg, cc, p⟩ : Room)]).map Room.p = cs.take (j + 1)) := by show _ = _; rw [List.map_append, hxs.out, HN'.out]; rfl
            clear r3 g3 n3 mm m1 m2 J1 X1 GN R2 G2 N2 d2 d1'
            go_roundw
            case rel => exact ⟨j + 1, xs ++ [⟨gg, cc, p⟩], by go_num, by omega, J3, XS, B3⟩
            case measure => simp [intOf]; omega
          · obtain rfl : j = k := by omega
            have XS : Hid (xs.map Room.p = cs) := by show _ = _; rw [hxs.out]; exact HF.out
            have HXL : Hid (xs.length = j) := by show _ = _; rw [← List.length_map (f := Room.p), XS.out]; exact HL.out
            obtain ⟨ar, cr, er, hcr, _⟩ := (RowV.rd hJI.out.rr).len
            obtain ⟨am, cm, em, hcm, _⟩ := (RowV.rd hJI.out.mm).len
            rw [List.length_map, HXL.out] at er em
            rw [List.length_map] at hcr hcm
            subst er em
            have RM0 : Hid (∀ wr, JI w0.heap.size wr (.slice ar j cr) (.slice am j cm) xs (fun x => roomL x.p) → RdR wr (.slice am j cm) cs) := fun wr h => by
              have := h.rdm (room_len xs)
              rw [map_take_room, XS.out] at this
              exact this
            have JN1 : Hid (Calls Tryd.prog 14 #[.slice am j cm] wr (NewT wr (CrcM.join cs))) := JN.out cs wr _ HS.out (by have := HZ.out; unfold CrcM.sizeL; omega) hnx (RM0.out wr hJI.out)
            have RJ1 : Hid (∀ w', Below w0.heap.size w0 w' → Calls Tryd.prog 15 #[.slice ao j cap] w' (NewT w' (CrcM.join cs))) := fun w' hb => RJ.out cs w' _ HS.out (by have := HZ.out; unfold CrcM.sizeL; omega) (RDX.out w' hb)
            have HFL : Hid ((CrcM.join cs).length ≤ 6000000) := HZ.out
            obtain ⟨F, hF⟩ : ∃ F, CrcM.join cs = F := ⟨_, rfl⟩
            rw [hF] at JN1 RJ1 HFL
            clear hF hxs hlt hj
            go_wp2_with fail
            refine JN1.out.mono ?_
            rintro e w1 ⟨a1, c1, rfl, r1, b1⟩
            have B1 : Hid (Below w0.heap.size w0 w1) := below_trans hnx b1
            have J1 : Hid (JI w0.heap.size w1 (.slice ar j cr) (.slice am j cm) xs (fun x => roomL x.p)) := hJI.out.later b1
            have F1 : Hid (RowB 5 wr.heap.size w1 (.slice a1 F.length c1) F) := r1
            have ZW : Hid (∀ x ∈ xs, x.g < wr.heap.size) := fun x hx => (hJI.out.it x hx).block_lt (g := x.g) rfl
            have S1 : Hid (wr.heap.size ≤ w1.heap.size) := b1.size
            clear r1 b1 JN1 hJI hnx
            go_wp2_with fail
            refine (RJ1.out _ B1.out).mono ?_
            rintro e w2 ⟨a2, c2, rfl, r2, b2⟩
            have B2 : Hid (Below w0.heap.size w0 w2) := below_trans B1.out b2
            have J2 : Hid (JI w0.heap.size w2 (.slice ar j cr) (.slice am j cm) xs (fun x => roomL x.p)) := J1.out.later b2
            have F2 : Hid (RowB 5 wr.heap.size w2 (.slice a1 F.length c1) F) := RowV.later F1.out b2
            have G2 : Hid (RowB 5 wr.heap.size w2 (.slice a2 F.length c2) F) := r2.mono S1.out
            clear r2 b2 RJ1 J1 F1 B1
            have RR0 : Hid (∀ i wq, i < j → JI w0.heap.size wq (.slice ar j cr) (.slice am j cm) xs (fun x => roomL x.p) → ∃ g o a' c', ar = some ⟨g, o, none⟩ ∧ g < wq.heap.size ∧ wq.cell? ⟨g, o + i, none⟩ = some (.slice a' ((cs.getD i []).length + 5) c') ∧ RdB wq (.slice a' ((cs.getD i []).length + 5) c') (roomL (cs.getD i []))) := fun i wq hi h => by
              obtain ⟨ao', c'', e, _, H⟩ := h.rdr (room_len xs)
              injection e with e1 e2 e3
              subst e1 e3
              obtain ⟨g, o, a', c', h1, h2, h3, h4⟩ := H i (by rw [List.length_map, HXL.out]; exact hi)
              have eq : (xs.map fun x => roomL x.p).getD i [] = roomL (cs.getD i []) := by
                rw [List.getD_eq_getElem?_getD, List.getElem?_map, List.getElem?_eq_getElem (by rw [HXL.out]; exact hi)]
                have : cs.getD i [] = (xs[i]'(by rw [HXL.out]; exact hi)).p := by
                  rw [← XS.out, List.getD_eq_getElem?_getD, List.getElem?_map, List.getElem?_eq_getElem (by rw [HXL.out]; exact hi)]; rfl
                rw [this]; rfl
              rw [eq, roomL_len] at h3 h4
              exact ⟨g, o, a', c', h1, h2, h3, h4⟩
            have AL1 : Hid (∀ wq, Below w0.heap.size w0 wq → JI w0.heap.size wq (.slice ar j cr) (.slice am j cm) xs (fun x => roomL x.p) → Calls Tryd.prog 9 #[.slice am j cm, .slice ao j cap] wq fun e w' => e = .returned (.bool true) ∧ ∃ n, w' = wq.drewN n) := fun wq hb h => alike_at cs _ _ wq (by have := HS.out.cnt; omega) (fun x hx => by have := HS.out.len x hx; omega) (RM0.out wq h) (RDX.out wq hb)
            have nb : ((true : Bool) != true) = false := rfl
            obtain ⟨M0, hM0⟩ : ∃ M, wr.heap.size = M := ⟨_, rfl⟩
            rw [hM0] at F2 G2 ZW
            clear hM0 S1
            go_wp2_with fail
            go_loopw [12] (fun vk wq => ∃ k : Nat, vk = .int .i64 (k : Int) ∧ k ≤ j ∧ Hid (JI w0.heap.size wq (.slice ar j cr) (.slice am j cm) xs (fun x => roomL x.p)) ∧ Hid (RowB 5 M0 wq (.slice a1 F.length c1) F) ∧ Hid (RowB 5 M0 wq (.slice a2 F.length c2) F) ∧ Hid (Below w0.heap.size w0 wq)) (fun vk _ => j - (intOf vk).toNat)
            case atStart => exact ⟨0, rfl, by omega, J2, F2, G2, B2⟩
            case round =>
              clear J2 F2 G2 B2
              obtain ⟨k, rfl, hk, hJ, hF1, hG1, hB⟩ := hrel
              by_cases hlt : (k : Int) < (j : Int)
              · obtain ⟨g, o, a3, c3, eao, d1, _, RM⟩ := PAY.out k (by omega)
                obtain ⟨gr, orr, a4, c4, ear, ltr, dr, rdr⟩ := RR0.out k wr (by omega) hJ.out
                have d1' := d1 wr hB.out
                have RMX : Hid (∀ w'', Below w0.heap.size w0 w'' → Calls Tryd.prog 6 #[.slice a3 (cs.getD k []).length c3] w'' (NewB w'' (roomL (cs.getD k [])))) := RM
                have HRL : Hid ((roomL (cs.getD k [])).length = (cs.getD k []).length + 5) := roomL_len _
                have hXl := HD.out k
                have SMX : Hid (∀ wx va vb, RdB wx va (roomL (cs.getD k [])) → RdB wx vb (roomL (cs.getD k [])) → Calls Tryd.prog 10 #[va, vb] wx fun e w' => e = .returned (.bool true) ∧ ∃ n, w' = wx.drewN n) := fun wx va vb h1 h2 => (same_at _ _ va vb wx (by rw [HRL.out]; omega) h1 h2).mono fun e w' ⟨k1, k2⟩ => ⟨by rw [k1, decide_eq_true rfl], k2⟩
                have RDR : Hid (RdB wr (.slice a4 ((cs.getD k []).length + 5) c4) (roomL (cs.getD k []))) := rdr
                have LTR : Hid (gr < wr.heap.size) := ltr
                clear RM d1 rdr ltr
                generalize hp : cs.getD k [] = p at *
                clear hp
                generalize roomL p = RP at *
                generalize p.length = X at *
                subst ear eao
                have KEEP : Hid (∀ wn, Below wr.heap.size wr wn → JI w0.heap.size wn (.slice (some ⟨gr, orr, none⟩) j cr) (.slice am j cm) xs (fun x => roomL x.p) ∧ RowB 5 M0 wn (.slice a1 F.length c1) F ∧ RowB 5 M0 wn (.slice a2 F.length c2) F ∧ Below w0.heap.size w0 wn) := fun wn bn => ⟨hJ.out.later bn, RowV.later hF1.out bn, RowV.later hG1.out bn, below_trans hB.out bn⟩
                go_upto_region 21 with fail
                go_region_with (first
                  | (go_at_call 6; refine (RMX.out _ (by first | exact hB.out | exact below_drewN hB.out _)).mono ?_; rintro e wn ⟨vn, rfl, rn, bn⟩; obtain ⟨an, cn, en, _, _⟩ := (RowV.rd rn).len; rw [List.length_map, HRL.out] at en; subst en; have BN : Below wr.heap.size wr wn := (by first | exact bn | exact below_drewN' bn); have RN : RdB wn (.slice an (X + 5) cn) RP := RowV.rd rn; have QN : RdB wn (.slice a4 (X + 5) c4) RP := Rd.later RDR.out BN; have dr2 : wn.cell? ⟨gr, orr + k, none⟩ = some (.slice a4 (X + 5) c4) := (BN.cell (p := ⟨gr, orr + k, none⟩) LTR.out).trans dr; clear rn bn)
                  | (go_at_call 10; refine (SMX.out _ _ _ (by first | exact QN | exact Rd.drewN QN _) (by first | exact RN | exact Rd.drewN RN _)).mono ?_; rintro e wm ⟨rfl, nm, rfl⟩))
                · have KK := KEEP.out wn BN
                  have JX : Hid (JI w0.heap.size (wn.drewN nm) (.slice (some ⟨gr, orr, none⟩) j cr) (.slice am j cm) xs (fun x => roomL x.p)) := KK.1.drewN nm
                  have FX : Hid (RowB 5 M0 (wn.drewN nm) (.slice a1 F.length c1) F) := RowV.drewN KK.2.1 nm
                  have GX : Hid (RowB 5 M0 (wn.drewN nm) (.slice a2 F.length c2) F) := RowV.drewN KK.2.2.1 nm
                  have BX : Hid (Below w0.heap.size w0 (wn.drewN nm)) := below_drewN KK.2.2.2 nm
                  clear KK RN QN dr dr2 BN d1' KEEP hJ hF1 hG1 hB
                  go_wp2_with fail
                  go_roundw
                  case rel => exact ⟨k + 1, by go_num, by omega, JX, FX, GX, BX⟩
                  case measure => simp [intOf]; omega
                · have KK := KEEP.out wn BN
                  have JX : Hid (JI w0.heap.size (wn.drewN nm) (.slice (some ⟨gr, orr, none⟩) j cr) (.slice am j cm) xs (fun x => roomL x.p)) := KK.1.drewN nm
                  have FX : Hid (RowB 5 M0 (wn.drewN nm) (.slice a1 F.length c1) F) := RowV.drewN KK.2.1 nm
                  have GX : Hid (RowB 5 M0 (wn.drewN nm) (.slice a2 F.length c2) F) := RowV.drewN KK.2.2.1 nm
                  have BX : Hid (Below w0.heap.size w0 (wn.drewN nm)) := below_drewN KK.2.2.2 nm
                  clear KK RN QN dr dr2 BN d1' KEEP hJ hF1 hG1 hB
                  go_wp2_with fail
                  go_roundw
                  case rel => exact ⟨k + 1, by go_num, by omega, JX, FX, GX, BX⟩
                  case measure => simp [intOf]; omega
                · have KK := KEEP.out wn BN
                  have JX : Hid (JI w0.heap.size (wn.drewN nm) (.slice (some ⟨gr, orr, none⟩) j cr) (.slice am j cm) xs (fun x => roomL x.p)) := KK.1.drewN nm
                  have FX : Hid (RowB 5 M0 (wn.drewN nm) (.slice a1 F.length c1) F) := RowV.drewN KK.2.1 nm
                  have GX : Hid (RowB 5 M0 (wn.drewN nm) (.slice a2 F.length c2) F) := RowV.drewN KK.2.2.1 nm
                  have BX : Hid (Below w0.heap.size w0 (wn.drewN nm)) := below_drewN KK.2.2.2 nm
                  clear KK RN QN dr dr2 BN d1' KEEP hJ hF1 hG1 hB
                  go_wp2_with fail
                  go_roundw
                  case rel => exact ⟨k + 1, by go_num, by omega, JX, FX, GX, BX⟩
                  case measure => simp [intOf]; omega
              · obtain rfl : k = j := by omega
                have SFG : Hid (Calls Tryd.prog 10 #[.slice a1 F.length c1, .slice a2 F.length c2] wr fun e w' => e = .returned (.bool true) ∧ ∃ n, w' = wr.drewN n) := (same_at F F _ _ wr (by have := HFL.out; omega) (RowV.rd hF1.out) (RowV.rd hG1.out)).mono fun e w' ⟨k1, k2⟩ => ⟨by rw [k1, decide_eq_true rfl], k2⟩
                clear hlt hk
                go_wp2_with fail
                refine SFG.out.mono ?_
                rintro e w3 ⟨rfl, n3, rfl⟩
                have B3 : Hid (Below w0.heap.size w0 (wr.drewN n3)) := below_drewN hB.out n3
                have J3 : Hid (JI w0.heap.size (wr.drewN n3) (.slice ar k cr) (.slice am k cm) xs (fun x => roomL x.p)) := hJ.out.drewN n3
                have F3 : Hid (RowB 5 M0 (wr.drewN n3) (.slice a1 F.length c1) F) := RowV.drewN hF1.out n3
                have G3 : Hid (RowB 5 M0 (wr.drewN n3) (.slice a2 F.length c2) F) := RowV.drewN hG1.out n3
                clear hB hJ hF1 hG1 SFG
                go_wp2_with fail
                refine (AL1.out _ B3.out J3.out).mono ?_
                rintro e w4 ⟨rfl, n4, rfl⟩
                have B4 : Hid (Below w0.heap.size w0 ((wr.drewN n3).drewN n4)) := below_drewN B3.out n4
                have J4 : Hid (JI w0.heap.size ((wr.drewN n3).drewN n4) (.slice ar k cr) (.slice am k cm) xs (fun x => roomL x.p)) := J3.out.drewN n4
                have F4 : Hid (RowB 5 M0 ((wr.drewN n3).drewN n4) (.slice a1 F.length c1) F) := RowV.drewN F3.out n4
                have G4 : Hid (RowB 5 M0 ((wr.drewN n3).drewN n4) (.slice a2 F.length c2) F) := RowV.drewN G3.out n4
                clear B3 J3 F3 G3 AL1
                generalize (wr.drewN n3).drewN n4 = W4 at *
                by_cases hk0 : k = 0
                · have e0 : ((k : Int) == 0) = true := beq_iff_eq.2 (by omega)
                  go_wp2_with fail
                  go_ret
                  exact ⟨rfl, B4.out⟩
                · have e0 : ((k : Int) == 0) = false := beq_eq_false_iff_ne.2 (by omega)
                  obtain ⟨x0, xt, exs⟩ : ∃ x0 xt, xs = x0 :: xt := by
                    cases xs with
                    | nil => exact absurd HXL.out.symm hk0
                    | cons x0 xt => exact ⟨x0, xt, rfl⟩
                  subst exs
                  obtain ⟨gm, ocm, e1, _, hcl, _⟩ := RowV.own J4.out.mm (by simp)
                  have e1' : am = some ⟨gm, 0, none⟩ := by injection e1
                  subst e1'
                  have m0 : W4.cell? ⟨gm, 0, none⟩ = some (.slice (some ⟨x0.g, 0, none⟩) x0.p.length x0.c) := by
                    have := hcl 0 (by simp)
                    simpa [Room.mv] using this
                  have hp0 : x0.p ∈ cs := by rw [← XS.out]; simp
                  have hpl : x0.p.length ≤ 1048576 := HS.out.len _ hp0
                  have hpb : ∀ b ∈ x0.p, b < 256 := HS.out.byt _ hp0
                  have own0 : RowB 5 w0.heap.size W4 (.slice (some ⟨x0.g, 0, none⟩) x0.p.length x0.c) x0.p := by
                    have := RowV.cut (k := x0.p.length) (J4.out.it x0 (by simp)) (by omega)
                    rw [← List.map_take, roomL_take] at this
                    exact this
                  have TRN : Hid (∀ n, Calls Tryd.prog 11 #[.slice (some ⟨x0.g, 0, none⟩) x0.p.length x0.c, .int .i64 (x0.p.length : Int)] (W4.drewN n) fun e w' => ∃ u, e = .returned u ∧ RowB 5 (W4.drewN n).heap.size w' u ((turnL x0.p x0.p.length).take x0.p.length) ∧ RowB 5 w0.heap.size w' (.slice (some ⟨x0.g, 0, none⟩) x0.p.length x0.c) (turnL x0.p x0.p.length) ∧ (W4.drewN n).grownBy w' (some x0.g)) := fun n => turned_at x0.p x0.p.length w0.heap.size _ _ (by omega) (Nat.le_refl _) hpb (RowV.drewN own0 n)
                  -- what is there behind the turn
                  have AFT : Hid (∀ n w', RowB 5 w0.heap.size w' (.slice (some ⟨x0.g, 0, none⟩) x0.p.length x0.c) (turnL x0.p x0.p.length) → (W4.drewN n).grownBy w' (some x0.g) → RdR w' (.slice (some ⟨gm, 0, none⟩) k cm) (turnL x0.p x0.p.length :: xt.map Room.p) ∧ RowB 5 M0 w' (.slice a1 F.length c1) F ∧ RowB 5 M0 w' (.slice a2 F.length c2) F ∧ Below w0.heap.size w0 w') := fun n w' r g => by
                    refine ⟨?_, RowV.kept (RowV.drewN F4.out n) g (fun q hq e => ?_), RowV.kept (RowV.drewN G4.out n) g (fun q hq e => ?_), below_grown (below_drewN B4.out n) (RowV.drewN own0 n) (Nat.le_refl _) (below_drewN B4.out n).size g⟩
                    · have mm' : RowV 22 w0.heap.size w' (.slice (some ⟨gm, 0, none⟩) k cm) ((x0 :: xt).map Room.mv) := RowV.kept (RowV.drewN J4.out.mm n) g (fun q hq e => by
                        injection e with e
                        subst e
                        exact rows_ne J4.out.mm (J4.out.it x0 (by simp)) (by decide) hq rfl)
                      have ap := List.pairwise_cons.1 J4.out.ap
                      have := rdm' mm' (fun x => if x.g = x0.g then turnL x0.p x0.p.length else x.p) (fun x hx => ?_) (fun x hx => ?_)
                      · rw [List.map_cons, if_pos rfl] at this
                        have et : (xt.map fun x => if x.g = x0.g then turnL x0.p x0.p.length else x.p) = xt.map Room.p := List.map_congr_left fun y hy => by rw [if_neg (fun e => ap.1 y hy e.symm)]
                        rw [et] at this
                        exact this
                      · rcases List.mem_cons.1 hx with e | e
                        · subst e; rw [if_pos rfl]; exact RowV.rd r
                        · rw [if_neg (fun e' => ap.1 x e e'.symm)]
                          have rk := RowV.kept (RowV.drewN (J4.out.it x (by simp [e])) n) g (fun q hq e' => ap.1 x e (by
                            have h1 : x.g = q := by simpa [Room.rv, Value.ownBlock] using hq
                            injection e' with e'
                            omega))
                          have := Rd.cut (k := x.p.length) (RowV.rd rk) (by omega)
                          rw [← List.map_take, roomL_take] at this
                          exact this
                      · rcases List.mem_cons.1 hx with e | e
                        · subst e; rw [if_pos rfl, turnL_len]
                        · rw [if_neg (fun e' => ap.1 x e e'.symm)]
                    · injection e with e
                      have h1 := F4.out.block_ge hq
                      have h2 := ZW.out x0 (by simp)
                      omega
                    · injection e with e
                      have h1 := G4.out.block_ge hq
                      have h2 := ZW.out x0 (by simp)
                      omega
                  have ecs : cs = x0.p :: xt.map Room.p := by rw [← XS.out]; rfl
                  have hds : Sml (turnL x0.p x0.p.length :: xt.map Room.p) := by
                    have H := HS.out
                    rw [ecs] at H
                    refine ⟨by have := H.cnt; simpa using this, fun c hc => ?_, fun c hc => ?_⟩
                    · rcases List.mem_cons.1 hc with e | e
                      · subst e; rw [turnL_len]; exact hpl
                      · exact H.len c (by simp [e])
                    · rcases List.mem_cons.1 hc with e | e
                      · subst e; exact turnL_lt hpb _
                      · exact H.byt c (by simp [e])
                  have hdz : (CrcM.join (turnL x0.p x0.p.length :: xt.map Room.p)).length ≤ 6000000 := by
                    have h1 := CrcM.sizeL_cons (turnL x0.p x0.p.length) (xt.map Room.p)
                    have h2 := CrcM.sizeL_cons x0.p (xt.map Room.p)
                    rw [← ecs] at h2
                    rw [turnL_len] at h1
                    have h3 := HZ.out
                    unfold CrcM.sizeL at h1 h2
                    omega
                  have TW : Hid (∀ w' v, RdR w' v (turnL x0.p x0.p.length :: xt.map Room.p) → Calls Tryd.prog 16 #[v] w' fun e w'' => ∃ a c, e = .returned (.slice a (turnL x0.p x0.p.length :: xt.map Room.p).length c) ∧ RowsV w'.heap.size w'' (.slice a (turnL x0.p x0.p.length :: xt.map Room.p).length c) (turnL x0.p x0.p.length :: xt.map Room.p) ∧ Below w'.heap.size w' w'') := fun w' v hr => twin_at _ v w' hds hr
                  have JN2 : Hid (∀ w' v, Below w0.heap.size w0 w' → RdR w' v (turnL x0.p x0.p.length :: xt.map Room.p) → Calls Tryd.prog 14 #[v] w' (NewT w' (CrcM.join (turnL x0.p x0.p.length :: xt.map Room.p)))) := fun w' v hb hr => JN.out _ w' v hds (by unfold CrcM.sizeL; omega) hb hr
                  have RJ2 : Hid (∀ w' v, RdR w' v (turnL x0.p x0.p.length :: xt.map Room.p) → Calls Tryd.prog 15 #[v] w' (NewT w' (CrcM.join (turnL x0.p x0.p.length :: xt.map Room.p)))) := fun w' v hr => RJ.out _ w' v hds (by unfold CrcM.sizeL; omega) hr
                  have HDZ : Hid ((CrcM.join (turnL x0.p x0.p.length :: xt.map Room.p)).length ≤ 6000000) := hdz
                  clear hds hdz ecs JN RJ own0 hp0 hpb hcl e1 PAY RR0 RM0 RDX XS HXL J4
                  generalize CrcM.join (turnL x0.p x0.p.length :: xt.map Room.p) = FD at *
                  generalize (turnL x0.p x0.p.length :: xt.map Room.p) = ds at *
                  generalize ds.length = LD at *
                  have eb : ((true : Bool) == true) = true := rfl
                  go_upto_region 27 with fail
                  go_region_with (go_at_call 11; refine (TRN.out _).mono ?_; rintro e wt ⟨u, rfl, ru, rt, gt⟩)
                  all_goals
                    (obtain ⟨RA, FA, GA, BA⟩ := AFT.out _ wt rt gt
                     have RA' : Hid (RdR wt (.slice (some ⟨gm, 0, none⟩) k cm) ds) := RA
                     have FA' : Hid (RowB 5 M0 wt (.slice a1 F.length c1) F) := FA
                     have GA' : Hid (RowB 5 M0 wt (.slice a2 F.length c2) F) := GA
                     have BA' : Hid (Below w0.heap.size w0 wt) := BA
                     clear RA FA GA BA AFT ru rt gt TRN m0 B4 F4 G4
                     go_wp2_with fail
                     refine (JN2.out _ _ BA'.out RA'.out).mono ?_
                     rintro e w5 ⟨a5, c5, rfl, r5, b5⟩
                     have B5 : Hid (Below w0.heap.size w0 w5) := below_trans BA'.out b5
                     have RA5 : Hid (RdR w5 (.slice (some ⟨gm, 0, none⟩) k cm) ds) := RA'.out.later b5
                     have F5 : Hid (RdB w5 (.slice a1 F.length c1) F) := RowV.rd (RowV.later FA'.out b5)
                     have G5 : Hid (RdB w5 (.slice a2 F.length c2) F) := RowV.rd (RowV.later GA'.out b5)
                     have H5 : Hid (RdB w5 (.slice a5 FD.length c5) FD) := RowV.rd r5
                     clear r5 b5 RA' FA' GA' BA' JN2
                     go_wp2_with fail
                     refine (TW.out _ _ RA5.out).mono ?_
                     rintro e w6 ⟨a6, c6, rfl, r6, b6⟩
                     have B6 : Hid (Below w0.heap.size w0 w6) := below_trans B5.out b6
                     have F6 : Hid (RdB w6 (.slice a1 F.length c1) F) := Rd.later F5.out b6
                     have G6 : Hid (RdB w6 (.slice a2 F.length c2) F) := Rd.later G5.out b6
                     have H6 : Hid (RdB w6 (.slice a5 FD.length c5) FD) := Rd.later H5.out b6
                     have R6 : Hid (RdR w6 (.slice a6 LD c6) ds) := r6.rd
                     clear r6 b6 B5 RA5 F5 G5 H5 TW
                     go_wp2_with fail
                     refine (RJ2.out _ _ R6.out).mono ?_
                     rintro e w7 ⟨a7, c7, rfl, r7, b7⟩
                     have B7 : Hid (Below w0.heap.size w0 w7) := below_trans B6.out b7
                     have F7 : Hid (RdB w7 (.slice a1 F.length c1) F) := Rd.later F6.out b7
                     have G7 : Hid (RdB w7 (.slice a2 F.length c2) F) := Rd.later G6.out b7
                     have H7 : Hid (RdB w7 (.slice a5 FD.length c5) FD) := Rd.later H6.out b7
                     have I7 : Hid (RdB w7 (.slice a7 FD.length c7) FD) := RowV.rd r7
                     clear r7 b7 B6 F6 G6 H6 R6 RJ2
                     go_wp2_with fail
                     refine (same_at FD FD _ _ w7 (by have := HDZ.out; omega) H7.out I7.out).mono ?_
                     rintro e w8 ⟨rfl, n8, rfl⟩
                     rw [decide_eq_true rfl]
                     go_wp2_with fail
                     refine (same_at F F _ _ _ (by have := HFL.out; omega) (Rd.drewN F7.out n8) (Rd.drewN G7.out n8)).mono ?_
                     rintro e w9 ⟨rfl, n9, rfl⟩
                     rw [decide_eq_true rfl]
                     go_wp2_with fail
                     go_ret
                     exact ⟨rfl, below_drewN B7.out (n8 + n9)⟩)
end Go.Proofs.YtbalmfghihgmgadDoor
