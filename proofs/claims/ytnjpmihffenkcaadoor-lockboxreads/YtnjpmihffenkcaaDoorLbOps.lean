/-
  Ours: lockbox.Ops.
-/
import Derived.Test.YtnjpmihffenkcaaDoorLbTll
namespace Go.Proofs.YtnjpmihffenkcaaDoor
open Go.RowKit LbM LbF CalM
/-- An operation as cells; a batch's operations. -/
abbrev opl (num : Int) (i : Nat) (x : It) : List Value := [.int .i64 2, .int .i64 x.ln, .int .i64 x.am, .int .i64 0, .int .i64 (num * 10000 + (i : Int) + 1), .int .i64 0, .string ⟨#[]⟩]
def opsC (num : Int) : Nat → List It → List Value
  | _, [] => []
  | i, x :: r => opl num i x ++ opsC num (i + 1) r
theorem opsC_len (num : Int) : ∀ (i : Nat) (l : List It), (opsC num i l).length = l.length * 7
  | _, [] => rfl
  | i, x :: r => by
    have ih := opsC_len num (i + 1) r
    rw [opsC, List.length_append, ih]
    show 7 + r.length * 7 = (r.length + 1) * 7
    omega
theorem opsC_app (num : Int) : ∀ (i : Nat) (a b : List It), opsC num i (a ++ b) = opsC num i a ++ opsC num (i + a.length) b
  | i, [], b => by simp [opsC]
  | i, x :: a, b => by rw [List.cons_append, opsC, opsC, opsC_app num (i + 1) a b, List.append_assoc, List.length_cons, show i + 1 + a.length = i + (a.length + 1) by omega]
theorem opsC_snoc {num : Int} {its : List It} {i : Nat} {x : It} (h : its[i]? = some x) : opsC num 0 (its.take (i + 1)) = opsC num 0 (its.take i) ++ opl num i x := by
  rw [its_take h, opsC_app, List.length_take, Nat.min_eq_left (Nat.le_of_lt (List.getElem?_eq_some_iff.1 h).1), Nat.zero_add]
  simp [opsC]
theorem opl_one (num : Int) (i : Nat) (x : It) : ∀ v ∈ opl num i x, v.oneCell' = true := fun v hv => by
  simp [opl] at hv
  rcases hv with rfl | rfl | rfl | rfl | rfl | rfl | rfl <;> rfl
theorem sizeOp (num : Int) (i : Nat) (x : It) : (Tryd.prog.info? 35).map (·.size) = some (opl num i x).length := by show _ = some 7; kernel_rfl
theorem infoOp : (Tryd.prog.info? 35).map (fun i => (i.zero, i.size, i.bytes)) = some (some (.agg #[.int .i64 0, .int .i64 0, .int .i64 0, .int .i64 0, .int .i64 0, .int .i64 0, .string ⟨#[]⟩]), 7, 64) := by kernel_rfl
/-- A row that fills its block. -/
theorem own_blk {base g n sz : Nat} {e : TypeId} {w : World} {xs : List Value} (h : w.ownsRow base e sz (.slice (some ⟨g, 0, none⟩) n n) n xs) : Blk g e xs w := by
  rcases h.2 with ⟨h1, _⟩ | ⟨g', cap, cur, h1, hb, hg, hn, hm, hs, ht⟩
  · cases h1
  · injection h1 with h1 _ h3
    injection h1 with h1
    injection h1 with h1
    subst h1 h3
    have hl : xs.length = n * sz := h.1
    have : cur = xs.toArray := by
      have e1 : cur.toList = xs := by
        have e2 : cur.toList.take (n * sz) = xs := by simpa using ht
        rwa [List.take_of_length_le (by rw [Array.length_toList, hs]; exact Nat.le_refl _)] at e2
      rw [← e1]
    rw [this] at hg
    exact hg
/-- What Ops answers. -/
def OpsAns (b : Bt) (w : World) (e : Ending) (w' : World) : Prop := if b.Has then ∃ g, e = .returned (.slice (some ⟨g, 0, none⟩) b.its.length b.its.length) ∧ w.heap.size ≤ g ∧ Blk g 35 (opsC b.num 0 b.its) w' ∧ Below w.heap.size w w' else e = .returned (.slice none 0 0) ∧ Below w.heap.size w w'
set_option maxRecDepth 20000 in
set_option maxHeartbeats 8000000 in
theorem ops_at (b : Bt) (hl : b.its.length ≤ 1000000000) (v : Value) (w : World) (h : RdI w v b.its) : Calls Tryd.prog 12 #[btV b v] w (OpsAns b w) := by
  obtain ⟨i0, hi, hz0, hz1, hz2⟩ := info_parts infoOp
  have HF : Hid (∀ w', Below w.heap.size w w' → Calls Tryd.prog 20 #[btV b v] w' fun e w2 => e = .returned (.bool (decide b.Has)) ∧ Below w'.heap.size w' w2) := fun w' q => hasFile_at b v w' hl (h.later q)
  have NB : Hid (Blk w.heap.size 24 (btL b v) (w.alloc (.cells #[.int .i64 b.day, .int .i64 b.num, v] 24))) := Blk.new 24 (btL b v) w
  have BA : Hid (Below w.heap.size w (w.alloc (.cells #[.int .i64 b.day, .int .i64 b.num, v] 24))) := below_alloc w _
  obtain ⟨ao, cap, rfl, hcap, hno, H⟩ := h
  have CE : Hid (∀ w', Below w.heap.size w w' → ∀ (i : Nat) (x : It), b.its[i]? = some x → ∃ g o, ao = some ⟨g, o, none⟩ ∧ g < w.heap.size ∧ w'.rangeAt g (o + i * 2) (itL x)) := fun w' hb i x hi => by
    obtain ⟨g, o, e, lt, r⟩ := H i x hi
    exact ⟨g, o, e, lt, range_later r lt hb⟩
  have HB0 : Hid (b.Has → 1 ≤ b.num ∧ b.num ≤ 999999 ∧ 1 ≤ b.its.length ∧ b.its.length ≤ 9999) := fun hb => ⟨hb.2.2.1, hb.2.2.2.1, hb.2.2.2.2.1, hb.2.2.2.2.2.1⟩
  have ANS : Hid (∀ e w', OpsAns b w e w' ↔ (if b.Has then ∃ g, e = .returned (.slice (some ⟨g, 0, none⟩) b.its.length b.its.length) ∧ w.heap.size ≤ g ∧ Blk g 35 (opsC b.num 0 b.its) w' ∧ Below w.heap.size w w' else e = .returned (.slice none 0 0) ∧ Below w.heap.size w w')) := fun _ _ => Iff.rfl
  obtain ⟨L, hL⟩ : ∃ L, b.its.length = L := ⟨_, rfl⟩
  have GI : Hid (∀ i, i < L → ∃ x, b.its[i]? = some x) := fun i hi => ⟨_, List.getElem?_eq_getElem (by omega)⟩
  have TK : Hid (b.its.take L = b.its) := by show _ = _; rw [← hL, List.take_length]
  simp only [hL] at *
  clear hL H hno
  go_enter Tryd.func12, Tryd.ntmps12
  go_upto_region 1 with fail
  generalize w.alloc (.cells #[.int .i64 b.day, .int .i64 b.num, .slice ao L cap] 24) = w1 at *
  go_wp2_with (refine step_load rfl 24 _ rfl w.heap.size 0 rfl (btL b (.slice ao L cap)) _ (Blk.all NB.out) Tryd.underlying24 rfl (sizeBt _ _) ?_)
  refine (HF.out w1 BA.out).mono ?_
  rintro e w2 ⟨rfl, b2⟩
  have S2 : Hid (Blk w.heap.size 24 (btL b (.slice ao L cap)) w2 ∧ Below w.heap.size w w2) := ⟨NB.out.below b2, below_trans BA.out b2⟩
  clear b2 NB BA
  by_cases hb : b.Has
  · rw [decide_eq_true hb]
    have HB : Hid b.Has := hb
    obtain ⟨n1, n2, l1, l2⟩ := HB0.out hb
    clear hb HB0
    have c2 := S2.out.1.cell 2 _ rfl
    obtain ⟨num, hnum⟩ : ∃ n, b.num = n := ⟨_, rfl⟩
    have HNU : Hid (b.num = num) := hnum
    rw [hnum] at n1 n2
    clear hnum
    have hb1 : i0.bytes * L ≤ 281474976710656 := by rw [hz2]; omega
    have hb2 : L ≤ maxLen := by unfold maxLen; omega
    have hb3 : w.heap.size ≤ w2.heap.size := S2.out.2.size
    go_upto_region 4 with (refine wpList_make_full _ rfl _ _ 31 rfl w.heap.size 35 i0 (.agg #[.int .i64 0, .int .i64 0, .int .i64 0, .int .i64 0, .int .i64 0, .int .i64 0, .string ⟨#[]⟩]) 7 Tryd.underlying31 hi hz0 hz1 .i64 .i64 (L : Int) (L : Int) L rfl rfl rfl rfl hb1 hb2 hb3 ?_; intro w3 r3 g3)
    have b3 := below_none g3
    obtain ⟨G, hG⟩ : ∃ G, w2.heap.size = G := ⟨_, rfl⟩
    have HG : Hid (w2.heap.size = G) := hG
    rw [hG] at r3
    have hrl := r3.1
    have S3 : Hid (Blk w.heap.size 24 (btL b (.slice ao L cap)) w3 ∧ Below w.heap.size w w3 ∧ w.heap.size < G ∧ ∃ rest : List Value, rest.length = L * 7 ∧ Blk G 35 rest w3) := ⟨S2.out.1.below b3, below_trans S2.out.2 b3, by rw [← hG]; exact S2.out.1.lt, _, hrl, own_blk r3⟩
    simp only [hG]
    clear b3 r3 g3 S2 c2 hrl hG hb1 hb2 hb3
    have c2 := S3.out.1.cell 2 _ rfl
    go_wp2_with fail
    go_loopw [16] (fun vk wr => ∃ (i : Nat), vk = .int .i64 (i : Int) ∧ i ≤ L ∧ Hid (Blk w.heap.size 24 (btL b (.slice ao L cap)) wr ∧ Below w.heap.size w wr ∧ w.heap.size < G ∧ ∃ rest : List Value, rest.length = (L - i) * 7 ∧ Blk G 35 (opsC num 0 (b.its.take i) ++ rest) wr)) (fun vk _ => L - (intOf vk).toNat)
    case atStart => exact ⟨0, rfl, by omega, S3.out.1, S3.out.2.1, S3.out.2.2.1, by simpa [opsC] using S3.out.2.2.2⟩
    case round =>
      obtain ⟨i, rfl, hik, HR⟩ := hrel
      clear S3 c2
      by_cases hlt : (i : Int) < (L : Int)
      · obtain ⟨x, hx⟩ := GI.out i (by omega)
        obtain ⟨g, o, rfl, lt, rg⟩ := CE.out wr HR.out.2.1 i _ hx
        have RG : Hid (wr.rangeAt g (o + i * 2) (itL x)) := rg
        have ED : Hid (opsC num 0 (b.its.take (i + 1)) = opsC num 0 (b.its.take i) ++ opl num i x ∧ (opsC num 0 (b.its.take i)).length = i * 7) := ⟨opsC_snoc hx, by rw [opsC_len, List.length_take, Nat.min_eq_left (Nat.le_of_lt (List.getElem?_eq_some_iff.1 hx).1)]⟩
        have NB2 : Hid (Blk wr.heap.size 43 itZ (wr.alloc (.cells #[.int .i64 0, .int .i64 0] 43))) := Blk.new 43 itZ wr
        have hsr := HR.out.2.1.size
        obtain ⟨xl, xa⟩ := x
        clear rg hx
        go_upto_region 7 with (first
          | (refine step_load rfl 43 _ rfl g (o + i * 2) rfl (itL ⟨xl, xa⟩) _ RG.out Tryd.underlying43 rfl (sizeIt _) ?_)
          | (refine step_store rfl 43 _ _ rfl wr.heap.size 0 43 itZ (itL ⟨xl, xa⟩) rfl rfl NB2.out (Nat.le_refl _) (sizeIt _) (oneIt _) ?_; intro w4 nb2 g2))
        have b2 : Below wr.heap.size wr w4 := below_row (below_alloc _ _) g2 (Nat.le_refl _)
        obtain ⟨rest, hrl, hbk⟩ := HR.out.2.2.2
        have S6 : Hid (Blk w.heap.size 24 (btL b (.slice (some ⟨g, o, none⟩) L cap)) w4 ∧ Below w.heap.size w w4 ∧ w.heap.size < G ∧ Blk G 35 (opsC num 0 (b.its.take i) ++ rest) w4 ∧ rest.length = (L - i) * 7) := ⟨HR.out.1.below b2, below_trans HR.out.2.1 b2, HR.out.2.2.1, hbk.below b2, hrl⟩
        have e0 := Blk.cell nb2 0 _ rfl
        have e1 := Blk.cell nb2 1 _ rfl
        have e2 := S6.out.1.cell 1 _ rfl
        simp only [HNU.out] at e2
        have hfit : i * 7 + (opl num i ⟨xl, xa⟩).length ≤ (opsC num 0 (b.its.take i) ++ rest).length := by
          rw [List.length_append, ED.out.2, hrl]
          show i * 7 + 7 ≤ _
          omega
        have HFT : Hid (i * 7 + (opl num i ⟨xl, xa⟩).length ≤ (opsC num 0 (b.its.take i) ++ rest).length) := hfit
        have hGlt := S6.out.2.2.2.1.lt
        clear nb2 g2 NB2 b2 HR RG hbk hrl hfit
        go_wp2_with (refine step_store rfl 35 _ _ rfl G (i * 7) 35 (opsC num 0 (b.its.take i) ++ rest) (opl num i ⟨xl, xa⟩) rfl rfl S6.out.2.2.2.1 HFT.out (sizeOp _ _ _) (opl_one _ _ _) ?_; intro w5 nb5 g5)
        have R5 : Hid (Blk w.heap.size 24 (btL b (.slice (some ⟨g, o, none⟩) L cap)) w5 ∧ Below w.heap.size w w5 ∧ w.heap.size < G ∧ ∃ rest : List Value, rest.length = (L - (i + 1)) * 7 ∧ Blk G 35 (opsC num 0 (b.its.take (i + 1)) ++ rest) w5) := by
          refine ⟨S6.out.1.grown g5 (fun e => by injection e with e; have := S6.out.2.2.1; omega), below_row S6.out.2.1 g5 (Nat.le_of_lt S6.out.2.2.1), S6.out.2.2.1, rest.drop 7, ?_, ?_⟩
          · rw [List.length_drop, S6.out.2.2.2.2]; omega
          · have e9 : (opsC num 0 (b.its.take i) ++ rest).take (i * 7) ++ opl num i ⟨xl, xa⟩ ++ (opsC num 0 (b.its.take i) ++ rest).drop (i * 7 + (opl num i ⟨xl, xa⟩).length) = opsC num 0 (b.its.take (i + 1)) ++ rest.drop 7 := by
              rw [ED.out.1, show (opl num i ⟨xl, xa⟩).length = 7 from rfl, ← ED.out.2, List.take_left, ← List.drop_drop, List.drop_left]
            rw [← e9]
            exact nb5
        clear nb5 g5 S6 HFT e0 e1 e2 hGlt
        go_wp2_with fail
        go_roundw
        case rel => exact ⟨i + 1, by go_num, by omega, R5⟩
        case measure => simp [intOf]; omega
      · obtain rfl : i = L := by omega
        go_wp2_with fail
        go_ret
        refine (ANS.out _ _).2 ?_
        rw [if_pos HB.out]
        obtain ⟨rest, hrl, hbk⟩ := HR.out.2.2.2
        have : rest = [] := List.eq_nil_of_length_eq_zero (by rw [hrl]; simp)
        subst this
        rw [TK.out, List.append_nil, ← HNU.out] at hbk
        exact ⟨G, rfl, Nat.le_of_lt HR.out.2.2.1, hbk, HR.out.2.1⟩
  · rw [decide_eq_false hb]
    have HB : Hid (¬ b.Has) := hb
    clear hb
    go_wp2_with fail
    go_ret
    refine (ANS.out _ _).2 ?_
    rw [if_neg HB.out]
    exact ⟨rfl, S2.out.2⟩
end Go.Proofs.YtnjpmihffenkcaaDoor
