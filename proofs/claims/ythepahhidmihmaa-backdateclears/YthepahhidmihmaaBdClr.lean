/-
  Ours: BackdateClears.
-/
import Derived.Test.YthepahhidmihmaaBdClM
namespace Go.Proofs.Ythepahhidmihmaa
open Go.RowKit LedM BdM

theorem rd_at {w : World} {v : Value} {xs : List Int} (h : Rd w v (xs.map (Value.int .i64))) : ∃ ao cap, v = .slice ao xs.length cap ∧ ∀ w', Below w.heap.size w w' → ∀ i, i < xs.length → ∃ g o, ao = some ⟨g, o, none⟩ ∧ g < w.heap.size ∧ w'.cell? ⟨g, o + i, none⟩ = some (.int .i64 (xs.getD i 0)) := by
  obtain ⟨ao, cap, e, h1, h2, h3⟩ := h
  refine ⟨ao, cap, by rw [e, List.length_map], fun w' hb i hi => ?_⟩
  obtain ⟨g, o, e', lt, hc⟩ := h3 i (by rw [List.length_map]; exact hi)
  refine ⟨g, o, e', lt, (hb.cell (p := ⟨g, o + i, none⟩) lt).trans (hc.trans ?_)⟩
  rw [List.getElem_map, List.getD_eq_getElem?_getD, List.getElem?_eq_getElem (by simpa using hi)]; rfl

set_option maxHeartbeats 2000000 in
set_option maxRecDepth 20000 in
theorem bdClears_any (xs : List Int) (v : Value) (w : World) (rd : Rd w v (xs.map (Value.int .i64))) : Calls Try.prog 3 #[v] w fun e w' => e = .returned (.bool true) ∧ Below w.heap.size w w' := by
  obtain ⟨ao, cap, rfl, CX0⟩ := rd_at rd
  have CX : Hid (∀ w', Below w.heap.size w w' → ∀ i, i < xs.length → ∃ g o, ao = some ⟨g, o, none⟩ ∧ g < w.heap.size ∧ w'.cell? ⟨g, o + i, none⟩ = some (.int .i64 (xs.getD i 0))) := CX0
  have NB : Hid (Blk w.heap.size 25 (bkL z12) (w.alloc (.cells #[Value.int .i64 0, Value.int .i64 0, Value.int .i64 0, Value.int .i64 0, Value.int .i64 0, Value.int .i64 0, Value.int .i64 0, Value.int .i64 0, Value.int .i64 0, Value.int .i64 0, Value.int .i64 0, Value.int .i64 0] 25))) := Blk.new 25 (bkL z12) w
  have BB : Hid (Below w.heap.size w (w.alloc (.cells #[Value.int .i64 0, Value.int .i64 0, Value.int .i64 0, Value.int .i64 0, Value.int .i64 0, Value.int .i64 0, Value.int .i64 0, Value.int .i64 0, Value.int .i64 0, Value.int .i64 0, Value.int .i64 0, Value.int .i64 0] 25))) := below_alloc w _
  have EN : Hid (∀ l w', BkOk l → Calls Try.prog 5 #[.agg (bkL l).toArray] w' fun e w2 => ∃ v, e = .returned (.tuple #[v, .bool (okB l)]) ∧ RowE w'.heap.size w2 v (mv l) ∧ Below w'.heap.size w' w2) := fun l w' h => entries_at l w' h
  have PS : Hid (∀ j, put xs j = if j < xs.length ∧ -500000000000000000 < xs.getD j 0 ∧ xs.getD j 0 < 500000000000000000 then xs.getD j 0 else 0) := fun j => rfl
  obtain ⟨L, hL⟩ : ∃ L, xs.length = L := ⟨_, rfl⟩
  rw [hL] at CX PS ⊢
  clear hL CX0 rd
  go_enter Try.func3, Try.ntmps3
  go_upto_region 2 with fail
  generalize w.alloc (.cells #[Value.int .i64 0, Value.int .i64 0, Value.int .i64 0, Value.int .i64 0, Value.int .i64 0, Value.int .i64 0, Value.int .i64 0, Value.int .i64 0, Value.int .i64 0, Value.int .i64 0, Value.int .i64 0, Value.int .i64 0] 25) = w2 at *
  obtain ⟨g3, hg3⟩ : ∃ g, w.heap.size = g := ⟨_, rfl⟩
  have HG3 : Hid (w.heap.size = g3) := hg3
  rw [hg3] at NB CX BB ⊢
  clear hg3
  go_wp2_with fail
  go_loopw [4, 5] (fun t i wr => ∃ k : Nat, k ≤ 11 ∧ i = .int .i64 (k : Int) ∧ t = .int .i64 (-(total (fb xs k))) ∧ Blk g3 25 (bkL (fb xs k)) wr ∧ Below g3 w wr) (fun _ i _ => 12 - (intOf i).toNat)
  case atStart => exact ⟨0, by omega, rfl, by rw [fb_0]; rfl, by rw [fb_0]; exact NB.out, BB.out⟩
  case round =>
    clear NB BB
    obtain ⟨k, hk, rfl, rfl, nb, bb⟩ := hrel
    have NB : Hid (Blk g3 25 (bkL (fb xs k)) wr) := nb
    have BB : Hid (Below g3 w wr) := bb
    have TB := fb_bound xs k (by omega)
    have wk : IntKind.i64.wrap ((k : Int) + 1) = (k : Int) + 1 := by rw [IntKind.wrap_i64]; omega
    clear nb bb
    by_cases hlt : (k : Int) + 1 < 12
    · have ps := PS.out k
      have FT : Hid (total (fb xs (k + 1)) = total (fb xs k) + put xs k) := fb_total xs (by omega)
      have FS : Hid (fb xs (k + 1) = (fb xs k).set k (put xs k)) := fb_step xs (by omega)
      have FZ : Hid (put xs k = 0 → fb xs (k + 1) = fb xs k) := fun h => fb_skip xs (by omega) h
      have PB := put_le xs k
      have FL : Hid ((fb xs k).length = 12) := fb_len xs k
      have hlt' : decide ((k : Int) + 1 < 12) = true := decide_eq_true hlt
      by_cases hL : (k : Int) < (L : Int)
      · obtain ⟨g, o, rfl, glt, cx⟩ := CX.out wr BB.out k (by omega)
        obtain ⟨x, hx⟩ : ∃ x, xs.getD k 0 = x := ⟨_, rfl⟩
        rw [hx] at ps cx
        have hL' : decide ((k : Int) < (L : Int)) = true := decide_eq_true hL
        by_cases p1 : -500000000000000000 < x
        · have d1 : decide (-500000000000000000 < x) = true := decide_eq_true p1
          by_cases p2 : x < 500000000000000000
          · have d2 : decide (x < 500000000000000000) = true := decide_eq_true p2
            rw [if_pos ⟨by omega, p1, p2⟩] at ps
            rw [ps] at FT FS
            have f0 := NB.out.fz k
            have l0 := NB.out.lt
            have c0 := NB.out.cell k _ (bkL_at (by rw [FL.out]; omega))
            have BB1 : Hid (Below g3 w (wr.setCell ⟨g3, k, none⟩ (.int .i64 x))) := BB.out.grown (setCell_grown wr g3 k _) (Nat.le_of_lt l0) (fun k e => by cases e; exact Nat.le_refl _)
            have NB1 : Hid (Blk g3 25 (bkL (fb xs (k + 1))) (wr.setCell ⟨g3, k, none⟩ (.int .i64 x))) := by
              have := NB.out.set (i := k) (.int .i64 x)
              show Blk _ _ _ _
              rw [FS.out]
              simpa [bkL, List.map_set] using this
            obtain ⟨g', o', e', _, cy⟩ := CX.out _ BB1.out k (by omega)
            cases e'
            rw [hx] at cy
            have wl : IntKind.i64.wrap (-(total (fb xs k)) - x) = -(total (fb xs (k + 1))) := by rw [IntKind.wrap_i64, FT.out]; omega
            clear TB
            obtain ⟨t, ht⟩ : ∃ t, -(total (fb xs k)) = t := ⟨_, rfl⟩
            obtain ⟨t1, ht1⟩ : ∃ t1, Hid (-(total (fb xs (k + 1))) = t1) := ⟨_, rfl⟩
            rw [ht, ht1.out] at wl
            rw [ht]
            clear ht FT
            clear ps hx PB FZ p1 p2
            go_wp2_with fail
            go_roundw
            case rel => exact ⟨k + 1, by omega, by go_num, by rw [ht1.out], NB1.out, BB1.out⟩
            case measure => simp [intOf]; omega
          · have d2 : decide (x < 500000000000000000) = false := decide_eq_false p2
            rw [if_neg (fun h => p2 h.2.2)] at ps
            have FZ1 : Hid (fb xs (k + 1) = fb xs k) := FZ.out ps
            clear ps hx PB FZ p1 p2 FT FS
            go_wp2_with fail
            go_roundw
            case rel => exact ⟨k + 1, by omega, by go_num, by rw [FZ1.out], by rw [FZ1.out]; exact NB.out, BB.out⟩
            case measure => simp [intOf]; omega
        · have d1 : decide (-500000000000000000 < x) = false := decide_eq_false p1
          rw [if_neg (fun h => p1 h.2.1)] at ps
          have FZ1 : Hid (fb xs (k + 1) = fb xs k) := FZ.out ps
          clear ps hx PB FZ p1 FT FS
          go_wp2_with fail
          go_roundw
          case rel => exact ⟨k + 1, by omega, by go_num, by rw [FZ1.out], by rw [FZ1.out]; exact NB.out, BB.out⟩
          case measure => simp [intOf]; omega
      · have hL' : decide ((k : Int) < (L : Int)) = false := decide_eq_false hL
        have hL2 : decide (k < L) = false := decide_eq_false (by omega)
        have hL3 : ¬ k < L := by omega
        rw [if_neg (fun h => hL (by omega))] at ps
        have FZ1 : Hid (fb xs (k + 1) = fb xs k) := FZ.out ps
        have hk' : Hid (k ≤ 11) := hk
        clear ps PB FZ hL FT FS TB hk
        go_wp2_with fail
        go_roundw
        case rel => exact ⟨k + 1, by omega, by go_num, by rw [FZ1.out], by rw [FZ1.out]; exact NB.out, BB.out⟩
        case measure => have := hk'.out; simp [intOf]; omega
    · obtain rfl : k = 11 := by omega
      have HB : Hid (bkL (bk0 xs) = (bkL (fb xs 11)).set 11 (.int .i64 (-(total (fb xs 11))))) := by
        show _ = _; unfold bk0; simp [bkL, List.map_set]
      have BAL : Hid (Bal (bk0 xs)) := bk0_bal xs
      have BK1 : Hid (BkOk (bk1 xs) ∧ okB (bk1 xs) = false ∧ mv (bk1 xs) = []) := bk1_ok xs
      have HB1 : Hid (bkL (bk1 xs) = (bkL (bk0 xs)).set 0 (.int .i64 ((bk0 xs).getD 0 0 + 1))) := by
        show _ = _; unfold bk1; simp [bkL, List.map_set]
      have B00 : Hid (IntKind.i64.wrap ((bk0 xs).getD 0 0 + 1) = (bk0 xs).getD 0 0 + 1) := by
        show _ = _
        have h1 := bk0_at xs 0 (by omega)
        rw [if_neg (by omega)] at h1
        have := put_le xs 0
        rw [IntKind.wrap_i64, h1]; omega
      have f0 := NB.out.fz 11
      have l0 := NB.out.lt
      have c0 := NB.out.cell 11 _ (bkL_at (by rw [fb_len]; omega))
      have NB1 : Hid (Blk g3 25 (bkL (bk0 xs)) (wr.setCell ⟨g3, 11, none⟩ (.int .i64 (-(total (fb xs 11)))))) := by
        show Blk _ _ _ _
        rw [HB.out]; exact NB.out.set _
      have BB1 : Hid (Below g3 w (wr.setCell ⟨g3, 11, none⟩ (.int .i64 (-(total (fb xs 11)))))) := BB.out.grown (setCell_grown wr g3 11 _) (Nat.le_of_lt l0) (fun k e => by cases e; exact Nat.le_refl _)
      have IB : Hid ((Try.prog.info? 25).map (·.size) = some (bkL (bk0 xs)).length) := by show _ = _; rw [bkL_len, BAL.out.len]; exact cellsBk
      have IB1 : Hid ((Try.prog.info? 25).map (·.size) = some (bkL (bk1 xs)).length) := by show _ = _; rw [bkL_len, BK1.out.1.1]; exact cellsBk
      have EB : Hid ((bkL (bk0 xs))[0]? = some (.int .i64 ((bk0 xs).getD 0 0))) := bkL_at (by rw [BAL.out.len]; omega)
      clear hlt hk TB CX PS NB BB HB
      generalize -(total (fb xs 11)) = t at *
      generalize bk0 xs = b at *
      generalize bk1 xs = b1 at *
      go_upto_region 10 with fail
      generalize wr.setCell ⟨g3, 11, none⟩ (.int .i64 t) = w3 at *
      clear f0 l0 c0
      go_wp2_with (refine step_load rfl 25 _ rfl g3 0 rfl (bkL b) _ NB1.out.all Try.underlying25 rfl IB.out ?_)
      refine (EN.out b w3 BAL.out.ok).mono ?_
      rintro e w4 ⟨v4, rfl, r4, b4⟩
      have e4 : okB b = true := ok_bal BAL.out
      rw [e4]
      obtain ⟨n, n11, hzn, hni⟩ := it_end BAL.out
      obtain ⟨en, ea⟩ := es_at n hni
      have em : mv b = es n b := by
        unfold mv; rw [e4]; exact (es_all hzn (by omega)).symm
      rw [em] at r4
      obtain ⟨ao4, cap4, rfl, hc4, hn4, H4⟩ := r4.rd
      have B4 : Hid (Below g3 w w4 ∧ g3 < w4.heap.size) := ⟨BB1.out.trans (b4.mono (Nat.le_of_lt NB1.out.lt)), Nat.lt_of_lt_of_le NB1.out.lt b4.size⟩
      have NB4 : Hid (Blk g3 25 (bkL b) w4) := NB1.out.below b4
      have CE : Hid (∀ w', Below w4.heap.size w4 w' → ∀ i, i < n → ∃ g o, ao4 = some ⟨g, o, none⟩ ∧ w'.rangeAt g (o + i * 3) (entL (ent (it i b)))) := fun w' hb i hi => by
        obtain ⟨g, o, e, lt, r⟩ := H4 i (by rw [en]; exact hi)
        rw [ea i hi] at r
        exact ⟨g, o, e, range_later r lt hb⟩
      have N11 : Hid (n ≤ 11 ∧ it n b = z12 ∧ ∀ i, i < n → it i b ≠ z12) := ⟨n11, hzn, hni⟩
      have d11 : decide ((11 : Int) < (n : Int)) = false := decide_eq_false (by omega)
      have d11b : decide (11 < n) = false := decide_eq_false (by omega)
      have d11c : ¬ 11 < n := by omega
      rw [en] at hc4 ⊢
      clear r4 H4 em ea en hni hzn e4 b4 NB1 BB1 hn4 hc4
      have NB5 : Hid (Blk g3 25 (bkL b) (w4.alloc (.cells #[Value.int .i64 0, Value.int .i64 0, Value.int .i64 0, Value.int .i64 0, Value.int .i64 0, Value.int .i64 0, Value.int .i64 0, Value.int .i64 0, Value.int .i64 0, Value.int .i64 0, Value.int .i64 0, Value.int .i64 0] 25))) := NB4.out.old _
      have NS5 : Hid (Blk w4.heap.size 25 (bkL z12) (w4.alloc (.cells #[Value.int .i64 0, Value.int .i64 0, Value.int .i64 0, Value.int .i64 0, Value.int .i64 0, Value.int .i64 0, Value.int .i64 0, Value.int .i64 0, Value.int .i64 0, Value.int .i64 0, Value.int .i64 0, Value.int .i64 0] 25))) := Blk.new 25 (bkL z12) w4
      have BB5 : Hid (Below w4.heap.size w4 (w4.alloc (.cells #[Value.int .i64 0, Value.int .i64 0, Value.int .i64 0, Value.int .i64 0, Value.int .i64 0, Value.int .i64 0, Value.int .i64 0, Value.int .i64 0, Value.int .i64 0, Value.int .i64 0, Value.int .i64 0, Value.int .i64 0] 25))) := below_alloc w4 _
      go_upto_region 14 with fail
      generalize (w4.alloc (.cells #[Value.int .i64 0, Value.int .i64 0, Value.int .i64 0, Value.int .i64 0, Value.int .i64 0, Value.int .i64 0, Value.int .i64 0, Value.int .i64 0, Value.int .i64 0, Value.int .i64 0, Value.int .i64 0, Value.int .i64 0] 25)) = w5 at *
      obtain ⟨g8, hg8⟩ : ∃ g, w4.heap.size = g := ⟨_, rfl⟩
      have HG8 : Hid (w4.heap.size = g8) := hg8
      have G38 : Hid (g3 < g8) := by have := B4.out.2; show g3 < g8; omega
      rw [hg8] at NS5 CE BB5 ⊢
      clear hg8 NB4
      go_wp2_with fail
      go_loopw [9, 10, 11] (fun i _ _ wr => ∃ k : Nat, k ≤ n ∧ i = .int .i64 (k : Int) ∧ Blk g8 25 (bkL (smA b k)) wr ∧ Blk g3 25 (bkL b) wr ∧ Below g8 w4 wr) (fun i _ _ _ => n - (intOf i).toNat)
      case atStart => exact ⟨0, by omega, rfl, by rw [smA_0]; exact NS5.out, NB5.out, BB5.out⟩
      case round =>
        clear NS5 NB5 BB5
        obtain ⟨k, hk, rfl, ns, nb, bb⟩ := hrel
        have NS : Hid (Blk g8 25 (bkL (smA b k)) wr) := ns
        have NB : Hid (Blk g3 25 (bkL b) wr) := nb
        have BB : Hid (Below g8 w4 wr) := bb
        clear ns nb bb
        by_cases hlt : (k : Int) < (n : Int)
        · obtain ⟨g, o, rfl, rg⟩ := CE.out wr BB.out k (by omega)
          have hz := N11.out.2.2 k (by omega)
          have bal := BAL.out.keeps k
          obtain ⟨uu, dd⟩ := bal.ne hz
          obtain ⟨_, _, une, a1⟩ := bal.two hz
          have ss := smA_step BAL.out hz
          have SL : Hid ((smA b k).length = 12) := smA_len b k
          have ok1 := (smA_ok BAL.out (k + 1)).2
          have oku := ok1 (fUp (it k b))
          have okd := ok1 (fDn (it k b))
          rw [ss, setD (by simp [smA_len]; omega), if_neg une, setD (by rw [smA_len]; exact uu), if_pos rfl] at oku
          rw [ss, setD (by simp [smA_len]; omega), if_pos rfl] at okd
          have SS : Hid (smA b (k + 1) = ((smA b k).set (fUp (it k b)) ((smA b k).getD (fUp (it k b)) 0 + am (it k b))).set (fDn (it k b)) ((smA b k).getD (fDn (it k b)) 0 - am (it k b))) := ss
          have NE : Hid (fUp (it k b) ≠ fDn (it k b)) := une
          have ne1 : ((fDn (it k b) : Int) == (fUp (it k b) : Int)) = false := by
            rw [beq_eq_false_iff_ne]; intro e; exact une (by omega)
          have ne2 : (fDn (it k b) == fUp (it k b)) = false := by
            rw [beq_eq_false_iff_ne]; intro e; exact une e.symm
          have ce0 : wr.cell? ⟨g, o + k * 3, none⟩ = some (.int .i64 (fUp (it k b) : Int)) := rg 0 _ rfl
          have ce1 : wr.cell? ⟨g, o + k * 3 + 1, none⟩ = some (.int .i64 (fDn (it k b) : Int)) := rg 1 _ rfl
          have ce2 : wr.cell? ⟨g, o + k * 3 + 2, none⟩ = some (.int .i64 (am (it k b))) := rg 2 _ rfl
          have RG : Hid (∀ w', Below g8 w4 w' → w'.cell? ⟨g, o + k * 3 + 2, none⟩ = some (.int .i64 (am (it k b)))) := fun w' hb => by
            obtain ⟨g', o', e', r'⟩ := CE.out w' hb k (by omega)
            cases e'
            exact r' 2 _ rfl
          have c0 := NS.out.cell (fUp (it k b)) _ (bkL_at (by rw [SL.out]; exact uu))
          have c1 := NS.out.cell (fDn (it k b)) _ (bkL_at (by rw [SL.out]; exact dd))
          clear ss ok1 bal hz rg une
          generalize fUp (it k b) = u at *
          generalize fDn (it k b) = d at *
          generalize am (it k b) = q at *
          obtain ⟨x, hx⟩ : ∃ x, (smA b k).getD u 0 = x := ⟨_, rfl⟩
          obtain ⟨y, hy⟩ : ∃ y, (smA b k).getD d 0 = y := ⟨_, rfl⟩
          have HY : Hid ((smA b k).getD d 0 = y) := hy
          rw [hx] at oku SS c0
          rw [hy] at okd SS c1
          clear hx hy
          unfold i64 at oku okd
          have wx : IntKind.i64.wrap (x + q) = x + q := by rw [IntKind.wrap_i64]; omega
          have wy : IntKind.i64.wrap (y - q) = y - q := by rw [IntKind.wrap_i64]; omega
          clear oku okd
          have u0 : (0 : Int) ≤ (u : Int) := by omega
          have u1 : (u : Int) < 12 := by omega
          have d0 : (0 : Int) ≤ (d : Int) := by omega
          have d1 : (d : Int) < 12 := by omega
          have f0 := NS.out.fz u
          have l0 := NS.out.lt
          have NS6 : Hid (Blk g8 25 ((bkL (smA b k)).set u (.int .i64 (x + q))) (wr.setCell ⟨g8, u, none⟩ (.int .i64 (x + q))).drew) := NS.out.set _
          have NB6 : Hid (Blk g3 25 (bkL b) (wr.setCell ⟨g8, u, none⟩ (.int .i64 (x + q))).drew) := Blk.drewN (NB.out.grown (setCell_grown wr g8 u _) (fun e => by have := G38.out; cases e; omega)) 1
          have BB6 : Hid (Below g8 w4 (wr.setCell ⟨g8, u, none⟩ (.int .i64 (x + q))).drew) := below_drewN (BB.out.grown (setCell_grown wr g8 u _) (Nat.le_of_lt l0) (fun k e => by cases e; exact Nat.le_refl _)) 1
          go_upto_region 21 with fail
          go_region
          generalize (wr.setCell ⟨g8, u, none⟩ (.int .i64 (x + q))).drew = w6 at *
          have ce3 := RG.out w6 BB6.out
          have c6 := NS6.out.cell d (.int .i64 y) (by rw [List.getElem?_set_ne NE.out, bkL_at (by rw [SL.out]; exact dd), HY.out])
          have f6 := NS6.out.fz d
          have l6 := NS6.out.lt
          clear f0 l0 c0 c1 ce0 ce1 ce2 NS NB BB
          have NS7 : Hid (Blk g8 25 (bkL (smA b (k + 1))) (w6.setCell ⟨g8, d, none⟩ (.int .i64 (y - q))).drew) := by
            have h1 := NS6.out.set (i := d) (.int .i64 (y - q))
            have h2 : Blk g8 25 (bkL (smA b (k + 1))) (w6.setCell ⟨g8, d, none⟩ (.int .i64 (y - q))) := by
              rw [SS.out]
              simpa [bkL, List.map_set] using h1
            exact h2
          have NB7 : Hid (Blk g3 25 (bkL b) (w6.setCell ⟨g8, d, none⟩ (.int .i64 (y - q))).drew) := Blk.drewN (NB6.out.grown (setCell_grown w6 g8 d _) (fun e => by have := G38.out; cases e; omega)) 1
          have BB7 : Hid (Below g8 w4 (w6.setCell ⟨g8, d, none⟩ (.int .i64 (y - q))).drew) := below_drewN (BB6.out.grown (setCell_grown w6 g8 d _) (Nat.le_of_lt l6) (fun k e => by cases e; exact Nat.le_refl _)) 1
          go_upto_region 22 with fail
          go_region
          generalize (w6.setCell ⟨g8, d, none⟩ (.int .i64 (y - q))).drew = w7 at *
          go_wp2_with fail
          go_roundw
          case rel => exact ⟨k + 1, by omega, by go_num, NS7.out, NB7.out, BB7.out⟩
          case measure => simp [intOf]; omega
        · obtain rfl : k = n := by omega
          have ES : Hid (smA b k = b) := smA_end BAL.out N11.out.2.1
          rw [ES.out] at NS
          have EQ : Hid (EqT 25 (bkL b) (bkL b) true) := by have := eqt_bk BAL.out.ok BAL.out.ok; rwa [decide_eq_true rfl] at this
          have f0 := NB.out.fz 0
          have l0 := NB.out.lt
          have c0 := NB.out.cell 0 _ EB.out
          have wb := B00.out
          have NB1 : Hid (Blk g3 25 (bkL b1) (wr.setCell ⟨g3, 0, none⟩ (.int .i64 (b.getD 0 0 + 1)))) := by
            show Blk _ _ _ _
            rw [HB1.out]; exact NB.out.set _
          have BBz : Hid (Below g3 w (wr.setCell ⟨g3, 0, none⟩ (.int .i64 (b.getD 0 0 + 1)))) := (B4.out.1.trans (BB.out.mono (Nat.le_of_lt G38.out))).grown (setCell_grown wr g3 0 _) (by have := B4.out.2; have := BB.out.size; omega) (fun k e => by cases e; exact Nat.le_refl _)
          clear CE N11 hlt hk BB B4 B00 HB1 EB
          generalize b.getD 0 0 = x at *
          go_upto_region 25 with (first
            | (refine step_load rfl 25 _ rfl g8 0 rfl (bkL b) _ NS.out.all Try.underlying25 rfl IB.out ?_)
            | (refine step_load rfl 25 _ rfl g3 0 rfl (bkL b) _ NB.out.all Try.underlying25 rfl IB.out ?_)
            | (refine step_neqT rfl 25 _ _ _ rfl (bkL b) (bkL b) true rfl rfl (by kernel_rfl) EQ.out ?_))
          go_upto_region 26 with fail
          generalize wr.setCell ⟨g3, 0, none⟩ (.int .i64 (x + 1)) = w6 at *
          clear f0 l0 c0 NS NB EQ
          go_wp2_with (refine step_load rfl 25 _ rfl g3 0 rfl (bkL b1) _ NB1.out.all Try.underlying25 rfl IB1.out ?_)
          refine (EN.out b1 w6 BK1.out.1).mono ?_
          rintro e w7 ⟨v7, rfl, r7, b7⟩
          rw [BK1.out.2.1]
          rw [BK1.out.2.2] at r7
          obtain ⟨a7, c7, rfl⟩ := r7.val
          have BBy : Hid (Below w.heap.size w w7) := by show Below _ _ _; rw [HG3.out]; exact BBz.out.trans (b7.mono (Nat.le_of_lt NB1.out.lt))
          clear r7 b7
          go_wp2_with fail
          go_ret
          exact ⟨rfl, BBy.out⟩
end Go.Proofs.Ythepahhidmihmaa
