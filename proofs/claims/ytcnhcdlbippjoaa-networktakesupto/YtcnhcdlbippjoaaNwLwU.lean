/-
  Ours: begins; NetworkTicks, NetworkTakes, NetworkExact, walked.
-/
import Derived.Test.YtcnhcdlbippjoaaNwBk2
import Derived.BigQuiet
import Derived.Test.YtcnhcdlbippjoaaNwSt0
import Derived.Test.YtcnhcdlbippjoaaNwIds
import Derived.Test.YtcnhcdlbippjoaaNwAcd
import Derived.Deep.CutRange
import Derived.Deep.RegionHeld
import Derived.Test.YtcnhcdlbippjoaaNwStE
import Derived.Test.YtcnhcdlbippjoaaNwStF
namespace Go.Proofs.Ytcnhcdlbippjoaa
open Go.RowKit NwM
set_option maxRecDepth 40000 in
set_option maxHeartbeats 8000000 in
theorem kept_at (Q N : Nat) (W M : Nat → Prop) (w : World) (h : BkA Q N W M w) (hN : N ≤ 140737488355328) :
    Calls Try.prog 12 #[.pointer (some ⟨Q, 0, none⟩)] w fun e w' => e = .returned (.bool true) ∧ Below w.heap.size w w' := by
  obtain ⟨v, V, h1, h2, h3⟩ := h.ex
  have ltQ := h1.lt Q h1.wq
  have key : ∀ k, k < 5 → ∃ a c, v k = .slice a (V k).length c ∧ ∀ (i : Nat) u, (V k)[i]? = some u → ∃ g, a = some ⟨g, 0, none⟩ ∧ w.cell? ⟨g, i, none⟩ = some u := fun k hk => by
    obtain ⟨a, c, e, -, -⟩ := (RowV.rd (h1.row k hk)).len
    refine ⟨a, c, e, fun i u hu => ?_⟩
    obtain ⟨g, cap, e2, _, _, hc⟩ := (h1.row k hk).at hu
    rw [e] at e2
    injection e2 with e2 _ _
    exact ⟨g, e2, hc⟩
  obtain ⟨a0, c0, e0, K0⟩ := key 0 (by omega)
  obtain ⟨a1, c1, e1, K1⟩ := key 1 (by omega)
  obtain ⟨a2, c2, e2, K2⟩ := key 2 (by omega)
  obtain ⟨a3, c3, e3, K3⟩ := key 3 (by omega)
  obtain ⟨a4, c4, e4, K4⟩ := key 4 (by omega)
  have q0 := h1.cell (k := 0) (by omega)
  have q1 := h1.cell (k := 1) (by omega)
  have q2 := h1.cell (k := 2) (by omega)
  have q3 := h1.cell (k := 3) (by omega)
  have q4 := h1.cell (k := 4) (by omega)
  rw [e0] at q0
  rw [e1, h2.la] at q1
  rw [e2] at q2
  rw [e3] at q3
  rw [e4, h2.lb] at q4
  have b0 := h3 0 (by omega)
  have b2 := h3 2 (by omega)
  have b3 := h3 3 (by omega)
  have HA : Hid (∀ i : Nat, i < (V 0).length → ∃ ga gl xa xn xc ya yn yc, a0 = some ⟨ga, 0, none⟩ ∧ a1 = some ⟨gl, 0, none⟩ ∧ w.cell? ⟨ga, i, none⟩ = some (.slice xa xn xc) ∧ w.cell? ⟨gl, i, none⟩ = some (.slice ya yn yc) ∧ yn ≤ 9223372036854775807 ∧
      (∀ k, k < xn → ∃ g o, xa = some ⟨g, o, none⟩ ∧ w.cell? ⟨g, o + k, none⟩ = some (.int .i64 (-7 - (i : Int)))) ∧ ∀ k, k < yn → ∃ g o, ya = some ⟨g, o, none⟩ ∧ w.cell? ⟨g, o + k, none⟩ = some (.int .i64 (-7 - (i : Int)))) := fun i hi => by
    obtain ⟨x, hx⟩ : ∃ x, (V 0)[i]? = some x := ⟨_, List.getElem?_eq_getElem hi⟩
    obtain ⟨y, hy⟩ : ∃ y, (V 1)[i]? = some y := ⟨_, List.getElem?_eq_getElem (by rw [h2.la]; exact hi)⟩
    obtain ⟨ga, ea, cx⟩ := K0 i x hx
    obtain ⟨gl, el, cy⟩ := K1 i y hy
    obtain ⟨xa, xn, xc, rfl, -, rx⟩ := (h2.ka i x hx).1
    obtain ⟨ya, yn, yc, rfl, ly, ry⟩ := (h2.kl i y hy).1
    refine ⟨ga, gl, xa, xn, xc, ya, yn, yc, ea, el, cx, cy, ly, fun k hk => ?_, fun k hk => ?_⟩
    · obtain ⟨ao, cap, e, _, _, H⟩ := rx
      injection e with e _ _
      obtain ⟨g, o, e5, _, hc⟩ := H k (by rw [List.length_replicate]; exact hk)
      exact ⟨g, o, by rw [e, e5], by rw [hc, List.getElem_replicate]⟩
    · obtain ⟨ao, cap, e, _, _, H⟩ := ry
      injection e with e _ _
      obtain ⟨g, o, e5, _, hc⟩ := H k (by rw [List.length_replicate]; exact hk)
      exact ⟨g, o, by rw [e, e5], by rw [hc, List.getElem_replicate]⟩
  have HS : Hid (∀ i : Nat, i < (V 2).length → ∃ gs xa xn xc, a2 = some ⟨gs, 0, none⟩ ∧ w.cell? ⟨gs, i, none⟩ = some (.slice xa xn xc) ∧ xn ≤ 9223372036854775807 ∧
      ∀ k, k < xn → ∃ g, xa = some ⟨g, 0, none⟩ ∧ w.cell? ⟨g, k * 3, none⟩ = some (.int .i64 (-7 - (i : Int))) ∧ w.cell? ⟨g, k * 3 + 1, none⟩ = some (.int .i64 0) ∧ w.cell? ⟨g, k * 3 + 2, none⟩ = some (.slice none 0 0)) := fun i hi => by
    obtain ⟨x, hx⟩ : ∃ x, (V 2)[i]? = some x := ⟨_, List.getElem?_eq_getElem hi⟩
    obtain ⟨gs, es, cx⟩ := K2 i x hx
    obtain ⟨n, rx⟩ := (h2.ks i x hx).1
    obtain ⟨xa, xc, ex, hxc, -⟩ := rx.len
    rw [List.length_replicate] at ex hxc
    have hle : n ≤ 9223372036854775807 := by
      rcases rx.2 with ⟨_, h0⟩ | ⟨g, cap, cur, hv, hb, hg, hn, hm, hs, ht⟩
      · rw [List.length_replicate] at h0; omega
      · rw [List.length_replicate] at hn; unfold maxLen at hm; omega
    subst ex
    refine ⟨gs, xa, n, xc, es, cx, hle, fun k hk => ?_⟩
    obtain ⟨g, cap, e, _, _, _⟩ := rx.some (by rw [List.length_replicate]; omega)
    injection e with e _ _
    subst e
    have hz : (List.replicate n (zA i))[k]? = some (zA i) := by rw [List.getElem?_replicate, if_pos hk]
    exact ⟨g, rfl, (rx.cell acL3 hz 0 _ rfl).2, (rx.cell acL3 hz 1 _ rfl).2, (rx.cell acL3 hz 2 _ rfl).2⟩
  have HB : Hid (∀ i : Nat, i < (V 3).length → ∃ gb gm xa xn xc m, a3 = some ⟨gb, 0, none⟩ ∧ a4 = some ⟨gm, 0, none⟩ ∧ w.cell? ⟨gb, i, none⟩ = some (.slice xa xn xc) ∧ w.cell? ⟨gm, i, none⟩ = some (.int .u8 ((m : Nat) : Int)) ∧ xn ≤ 9223372036854775807 ∧
      ∀ k, k < xn → ∃ g o, xa = some ⟨g, o, none⟩ ∧ w.cell? ⟨g, o + k, none⟩ = some (.int .u8 ((m : Nat) : Int))) := fun i hi => by
    obtain ⟨x, hx⟩ : ∃ x, (V 3)[i]? = some x := ⟨_, List.getElem?_eq_getElem hi⟩
    obtain ⟨y, hy⟩ : ∃ y, (V 4)[i]? = some y := ⟨_, List.getElem?_eq_getElem (by rw [h2.lb]; exact hi)⟩
    obtain ⟨gb, eb, cx⟩ := K3 i x hx
    obtain ⟨gm, em, cy⟩ := K4 i y hy
    obtain ⟨kv, ⟨m, rfl⟩, -⟩ := h2.kb i x y hx hy
    obtain ⟨xa, xn, xc, rfl, ly, rx⟩ := kv
    refine ⟨gb, gm, xa, xn, xc, m, eb, em, cx, cy, ly, fun k hk => ?_⟩
    obtain ⟨ao, cap, e, _, _, H⟩ := rx
    injection e with e _ _
    obtain ⟨g, o, e5, _, hc⟩ := H k (by rw [List.length_replicate]; exact hk)
    exact ⟨g, o, by rw [e, e5], by rw [hc, List.getElem_replicate]; rfl⟩
  clear K0 K1 K2 K3 K4 e0 e1 e2 e3 e4 key h h1 h2
  obtain ⟨NA, hNA⟩ : ∃ NA, (V 0).length = NA := ⟨_, rfl⟩
  obtain ⟨NS, hNS⟩ : ∃ NS, (V 2).length = NS := ⟨_, rfl⟩
  obtain ⟨NB, hNB⟩ : ∃ NB, (V 3).length = NB := ⟨_, rfl⟩
  rw [hNA] at q0 q1 b0 HA
  rw [hNS] at q2 b2 HS
  rw [hNB] at q3 q4 b3 HB
  clear hNA hNS hNB h3
  go_enter Try.func12, Try.ntmps12
  go_wp2_with fail
  go_loopw [3, 4] (fun vi _ wr => ∃ i : Nat, wr = w ∧ vi = .int .i64 (i : Int) ∧ i ≤ NA) (fun vi _ _ => NA - (intOf vi).toNat)
  case atStart => exact ⟨0, rfl, rfl, by omega⟩
  case round =>
    obtain ⟨i, rfl, rfl, hi⟩ := hrel
    by_cases hlt : (i : Int) < (NA : Int)
    · obtain ⟨ga, gl, xa, xn, xc, ya, yn, yc, ea, el, cx, cy, hyn, KX, KY⟩ := HA.out i (by omega)
      subst ea el
      have HKX := (show Hid _ from KX)
      have HKY := (show Hid _ from KY)
      clear KX KY
      have e1 : ((-7 - (i : Int)) != (-7 - (i : Int))) = false := by simp
      go_wp2_with fail
      go_loopw [4] (fun vk wx => ∃ k : Nat, wx = wr ∧ vk = .int .i64 (k : Int) ∧ k ≤ yn) (fun vk _ => yn - (intOf vk).toNat)
      case atStart => exact ⟨0, rfl, rfl, by omega⟩
      case round =>
        obtain ⟨k, rfl, rfl, hk⟩ := hrel
        by_cases hlk : (k : Int) < (yn : Int)
        · obtain ⟨g, o, ey, ck⟩ := HKY.out k (by omega)
          subst ey
          by_cases hlx : (k : Int) < (xn : Int)
          · obtain ⟨g', o', ex, ck'⟩ := HKX.out k (by omega)
            subst ex
            go_wp2_with fail
            go_roundw
            case rel => exact ⟨k + 1, trivial, by go_num, by omega⟩
            case measure => simp [intOf] <;> omega
          · go_wp2_with fail
            go_roundw
            case rel => exact ⟨k + 1, trivial, by go_num, by omega⟩
            case measure => simp [intOf] <;> omega
        · go_wp2_with fail
          go_roundw
          case rel => exact ⟨i + 1, trivial, by go_num, by omega⟩
          case measure => simp [intOf] <;> omega
    · clear HA
      go_wp2_with fail
      go_loopw [5, 6] (fun vi _ wx => ∃ j : Nat, wx = wr ∧ vi = .int .i64 (j : Int) ∧ j ≤ NS) (fun vi _ _ => NS - (intOf vi).toNat)
      case atStart => exact ⟨0, rfl, rfl, by omega⟩
      case round =>
        obtain ⟨j, rfl, rfl, hj⟩ := hrel
        by_cases hlj : (j : Int) < (NS : Int)
        · obtain ⟨gs, xa, xn, xc, es, cx, hxn, KX⟩ := HS.out j (by omega)
          subst es
          have HKX := (show Hid _ from KX)
          clear KX
          have e1 : ((-7 - (j : Int)) != (-7 - (j : Int))) = false := by simp
          go_wp2_with fail
          go_loopw [6] (fun vk wx => ∃ k : Nat, wx = wr ∧ vk = .int .i64 (k : Int) ∧ k ≤ xn) (fun vk _ => xn - (intOf vk).toNat)
          case atStart => exact ⟨0, rfl, rfl, by omega⟩
          case round =>
            obtain ⟨k, rfl, rfl, hk⟩ := hrel
            by_cases hlk : (k : Int) < (xn : Int)
            · obtain ⟨g, ex, k0, k1, k2⟩ := HKX.out k (by omega)
              subst ex
              go_wp2_with fail
              go_roundw
              case rel => exact ⟨k + 1, trivial, by go_num, by omega⟩
              case measure => simp [intOf] <;> omega
            · go_wp2_with fail
              go_roundw
              case rel => exact ⟨j + 1, trivial, by go_num, by omega⟩
              case measure => simp [intOf] <;> omega
        · clear HS
          go_wp2_with fail
          go_loopw [7, 8] (fun vi _ wx => ∃ l m : Nat, wx = wr.drewN m ∧ vi = .int .i64 (l : Int) ∧ l ≤ NB) (fun vi _ _ => NB - (intOf vi).toNat)
          case atStart => exact ⟨0, 0, rfl, rfl, by omega⟩
          case round =>
            obtain ⟨l, m0, rfl, rfl, hl⟩ := hrel
            by_cases hll : (l : Int) < (NB : Int)
            · obtain ⟨gb, gm, xa, xn, xc, m, eb, em, cx, cy, hxn, KX⟩ := HB.out l (by omega)
              subst eb em
              have HKX := (show Hid _ from KX)
              clear KX
              have e1 : ((m : Int) != (m : Int)) = false := by simp
              go_wp2_with fail
              go_loopw [8] (fun vk wx => ∃ k m1 : Nat, wx = wr.drewN m1 ∧ vk = .int .i64 (k : Int) ∧ k ≤ xn) (fun vk _ => xn - (intOf vk).toNat)
              case atStart => exact ⟨0, m0, rfl, rfl, by omega⟩
              case round =>
                obtain ⟨k, m1, rfl, rfl, hk⟩ := hrel
                by_cases hlk : (k : Int) < (xn : Int)
                · obtain ⟨g, o, ex, ck⟩ := HKX.out k (by omega)
                  subst ex
                  go_wp2_with fail
                  go_quiet (fail)
                  go_wp2_with fail
                  go_roundw
                  case rel => exact ⟨k + 1, m1 + nq, by simp, by go_num, by omega⟩
                  case measure => simp [intOf] <;> omega
                · go_wp2_with fail
                  go_roundw
                  case rel => exact ⟨l + 1, m1, by simp, by go_num, by omega⟩
                  case measure => simp [intOf] <;> omega
            · go_wp2_with fail
              go_ret
              exact ⟨rfl, below_drewN (Below.refl _ _) m0⟩
end Go.Proofs.Ytcnhcdlbippjoaa

namespace Go.Proofs.Ytcnhcdlbippjoaa
open Go.RowKit NwM
set_option linter.unusedSimpArgs false
theorem AccL.kpx {base : Nat} {w w' : World} {v : Value} {ys : List Ac} {N : Nat → Prop} (h : AccL base w v ys) (k : Kp N w w') (hn : ∀ g, v.ownBlock = some g ∨ (∃ y ∈ ys, bkOf y = some g) → ¬ N g) : AccL base w' v ys := ⟨own_kp h.row k (fun g e => hn g (.inl e)), fun y hy => (h.bd y hy).kp k (fun g e => hn g (.inr ⟨y, hy, e⟩)), h.nd⟩
set_option maxRecDepth 40000 in
set_option maxHeartbeats 8000000 in
theorem step_acc {R Q n N : Nat} {S B C W M : Nat → Prop} {t : Nt} {r : RNt} {aa : Option Addr} {an ac : Nat} {fa : Option Addr} {fn fc : Nat} {ma : Option Addr} {mn mc : Nat} (o : OpN) (w : World) (h : PrA R S B C t r aa an ac fa fn fc ma mn mc w) (hb : BkA Q N W M w) (hd : ∀ g, S g ∨ B g ∨ C g → ¬ (W g ∨ M g)) (ok : Okp n t r) (hn : n ≤ 149797) (hN : N ≤ 900000000000) :
    Calls Try.prog 11 #[.agg #[.pointer (some ⟨R, 0, none⟩), .int .i64 ((r.now : Nat) : Int), .slice aa an ac, .slice fa fn fc, .slice ma mn mc], .agg #[.int .i64 6, .bool o.other, .string o.lt, .int .i64 o.id, .bool o.ack, .slice o.xa o.xn o.xc], .pointer (some ⟨Q, 0, none⟩)] w (SA R Q n N S B C W M w) := by
  have HF : Hid (Rel t r ∧ Okp n t r ∧ n ≤ 149797 ∧ N ≤ 900000000000) := ⟨h.rel, ok, hn, hN⟩
  have S1 : Hid (ST w.heap.size R Q w S B C W M S B C W M t r aa an ac fa fn fc ma mn mc N [.pointer (some ⟨R, 0, none⟩), .int .i64 ((r.now : Nat) : Int), .slice aa an ac, .slice fa fn fc, .slice ma mn mc] [.int .i64 6, .bool o.other, .string o.lt, .int .i64 o.id, .bool o.ack, .slice o.xa o.xn o.xc] (((w.alloc (.cells #[.pointer (some ⟨R, 0, none⟩), .int .i64 ((r.now : Nat) : Int), .slice aa an ac, .slice fa fn fc, .slice ma mn mc] 37)).alloc (.cells #[.int .i64 6, .bool o.other, .string o.lt, .int .i64 o.id, .bool o.ack, .slice o.xa o.xn o.xc] 45)).alloc (.cells #[.pointer none, .int .i64 0, .slice none 0 0, .slice none 0 0, .slice none 0 0] 37))) := ST.start h hb hd _
  have FX := ok.facts h.rel
  have FXH : Hid (sz t ≤ 6 * n ∧ t.now ≤ n ∧ r.now ≤ n ∧ r.ms.length ≤ 6 * n ∧ r.ac.length ≤ 6 * n ∧ t.ac.length ≤ 6 * n ∧ t.fs.length ≤ 4096 ∧ r.fs.length ≤ 4096 ∧ (∀ f ∈ r.fs, isF f) ∧ (∀ a ∈ t.ac, a.bs.length ≤ 1048576) ∧ ∀ a ∈ r.ac, a.bs.length ≤ 1048576) := FX
  clear FX
  clear h hb hd ok hn hN
  go_enter Try.func11, Try.ntmps11
  go_upto_region 1 with fail
  obtain ⟨Z, hZ⟩ : ∃ Z, w.heap.size = Z := ⟨_, rfl⟩
  rw [hZ] at S1 ⊢
  clear hZ
  generalize ((w.alloc (.cells #[.pointer (some ⟨R, 0, none⟩), .int .i64 ((r.now : Nat) : Int), .slice aa an ac, .slice fa fn fc, .slice ma mn mc] 37)).alloc (.cells #[.int .i64 6, .bool o.other, .string o.lt, .int .i64 o.id, .bool o.ack, .slice o.xa o.xn o.xc] 45)).alloc (.cells #[.pointer none, .int .i64 0, .slice none 0 0, .slice none 0 0, .slice none 0 0] 37) = w1 at *
  have o0 := S1.out.bo.cell 0 _ rfl
  have lO := S1.out.bo.lt
  have AQ : Hid (∀ w', NetAt R S B t w' → Calls Try.prog 24 #[.pointer (some ⟨R, 0, none⟩)] w' (AccAns t w')) := fun w' hn => accepted_at R S B t w' hn (by have := FXH.out; have := HF.out.2.2; omega) (fun a ha => by have := FXH.out.2.2.2.2.2.2.2.2.2.1 a ha; omega)
  have S1Z : Hid (Z + 1 + 1 < w1.heap.size ∧ w.heap.size ≤ w1.heap.size ∧ ∀ g, (S g ∨ B g ∨ C g) ∨ (W g ∨ M g) → g < w1.heap.size) := ⟨S1.out.bz.lt, S1.out.k.size, S1.out.lt⟩
  have p0 := S1.out.bp.cell 0 _ rfl
  have pL := S1.out.bp.lt
  go_upto_region 21 with fail
  have A1 := AQ.out w1 S1.out.net
  go_wp2_with fail
  refine A1.mono ?_
  rintro e w2 ⟨ka, kl, kc, ys, rfl, al1, ec1, b2⟩
  have S2 : Hid (ST Z R Q w S B C W M S B C W M t r aa an ac fa fn fc ma mn mc N [.pointer (some ⟨R, 0, none⟩), .int .i64 ((r.now : Nat) : Int), .slice aa an ac, .slice fa fn fc, .slice ma mn mc] [.int .i64 6, .bool o.other, .string o.lt, .int .i64 o.id, .bool o.ack, .slice o.xa o.xn o.xc] w2) := S1.out.below b2
  have AL1 : Hid (AccL w1.heap.size w2 (.slice ka kl kc) ys ∧ ys.map core = t.ac.map core ∧ w1.heap.size ≤ w2.heap.size) := ⟨al1, ec1, b2.size⟩
  clear A1 al1 ec1 b2 S1 p0 pL o0 lO
  have p0 := S2.out.bp.cell 0 _ rfl
  have pL := S2.out.bp.lt
  go_upto_region 22 with fail
  have A2 := AQ.out w2 S2.out.net
  go_wp2_with fail
  refine A2.mono ?_
  rintro e w3 ⟨la, ll, lc, zs, rfl, al2, ec2, b3⟩
  have S3 : Hid (ST Z R Q w S B C W M S B C W M t r aa an ac fa fn fc ma mn mc N [.pointer (some ⟨R, 0, none⟩), .int .i64 ((r.now : Nat) : Int), .slice aa an ac, .slice fa fn fc, .slice ma mn mc] [.int .i64 6, .bool o.other, .string o.lt, .int .i64 o.id, .bool o.ack, .slice o.xa o.xn o.xc] w3) := S2.out.below b3
  have AL2 : Hid (AccL w2.heap.size w3 (.slice la ll lc) zs ∧ zs.map core = t.ac.map core ∧ w2.heap.size ≤ w3.heap.size) := ⟨al2, ec2, b3.size⟩
  have XL : Hid (∀ g, (Value.slice ka kl kc).ownBlock = some g ∨ (∃ y ∈ ys, bkOf y = some g) → w1.heap.size ≤ g ∧ g < w2.heap.size) := fun g hg => by
    rcases hg with hg | ⟨y, hy, hg⟩
    · exact ⟨(own_heap AL1.out.1.row hg).1, own_lt AL1.out.1.row hg⟩
    · exact ⟨(own_heap (AL1.out.1.bd y hy) hg).1, own_lt (AL1.out.1.bd y hy) hg⟩
  have YL : Hid (∀ g, (Value.slice la ll lc).ownBlock = some g ∨ (∃ y ∈ zs, bkOf y = some g) → w2.heap.size ≤ g ∧ g < w3.heap.size) := fun g hg => by
    rcases hg with hg | ⟨y, hy, hg⟩
    · exact ⟨(own_heap AL2.out.1.row hg).1, own_lt AL2.out.1.row hg⟩
    · exact ⟨(own_heap (AL2.out.1.bd y hy) hg).1, own_lt (AL2.out.1.bd y hy) hg⟩
  have AL3 : Hid (AccL w1.heap.size w3 (.slice ka kl kc) ys) := AccL.kpx AL1.out.1 (Kp.of_below b3 (fun _ => False)) (fun _ _ z => z)
  clear A2 al2 ec2 b3 S2 p0 pL AQ
  have LB : Hid ((∀ y ∈ ys, y.bs.length ≤ 1048576) ∧ (∀ y ∈ zs, y.bs.length ≤ 1048576) ∧ ys.length ≤ 6 * n ∧ zs.length ≤ 6 * n ∧ ys.map core = r.ac.map core ∧ zs.map core = r.ac.map core) := ⟨core_bs (P := fun bs => bs.length ≤ 1048576) AL1.out.2.1 FXH.out.2.2.2.2.2.2.2.2.2.1, core_bs (P := fun bs => bs.length ≤ 1048576) AL2.out.2.1 FXH.out.2.2.2.2.2.2.2.2.2.1, by rw [core_len AL1.out.2.1]; exact FXH.out.2.2.2.2.2.1, by rw [core_len AL2.out.2.1]; exact FXH.out.2.2.2.2.2.1, AL1.out.2.1.trans HF.out.1.ac, AL2.out.2.1.trans HF.out.1.ac⟩
  have SA1 : Hid (Calls Try.prog 25 #[.slice ka kl kc, .slice aa an ac] w3 fun e w' => e = .returned (.bool true) ∧ Below w3.heap.size w3 w') := (sameAcc_yes ys r.ac (.slice ka kl kc) (.slice aa an ac) w3 (by have := LB.out; have := HF.out.2.2; omega) (AL3.out.rd (fun y hy => by have := LB.out.1 y hy; omega)) ⟨S3.out.rv.acc, fun y hy => ⟨(S3.out.rv.ba y hy).1, by have := FXH.out.2.2.2.2.2.2.2.2.2.2 y hy; omega⟩⟩ LB.out.2.2.2.2.1).mono fun e w' z => ⟨z.1, z.2⟩
  have p2 := S3.out.bp.cell 2 _ rfl
  have pL := S3.out.bp.lt
  go_wp2_with fail
  refine SA1.out.mono ?_
  rintro e w4 ⟨rfl, b4⟩
  have S4 : Hid (ST Z R Q w S B C W M S B C W M t r aa an ac fa fn fc ma mn mc N [.pointer (some ⟨R, 0, none⟩), .int .i64 ((r.now : Nat) : Int), .slice aa an ac, .slice fa fn fc, .slice ma mn mc] [.int .i64 6, .bool o.other, .string o.lt, .int .i64 o.id, .bool o.ack, .slice o.xa o.xn o.xc] w4) := S3.out.below b4
  have AL4 : Hid (AccL w1.heap.size w4 (.slice ka kl kc) ys ∧ AccL w2.heap.size w4 (.slice la ll lc) zs ∧ w3.heap.size ≤ w4.heap.size) := ⟨AccL.kpx AL3.out (Kp.of_below b4 (fun _ => False)) (fun _ _ z => z), AccL.kpx AL2.out.1 (Kp.of_below b4 (fun _ => False)) (fun _ _ z => z), b4.size⟩
  clear SA1 b4 S3 AL3 p2 pL
  have SZ := (show Hid (w1.heap.size ≤ w2.heap.size ∧ w2.heap.size ≤ w3.heap.size ∧ w3.heap.size ≤ w4.heap.size) from ⟨AL1.out.2.2, AL2.out.2.2, AL4.out.2.2⟩)
  have AC1 : Hid (Calls Try.prog 26 #[.pointer (some ⟨Q, 0, none⟩), .slice ka kl kc] w4 fun e w' => e = .returned (.tuple #[]) ∧ BkP Q (N + 2 * ys.length + 1) W M (fun g => (Value.slice ka kl kc).ownBlock = some g ∨ ∃ y ∈ ys, bkOf y = some g) w4 w') := acd_at Q N W M _ ys ka kl kc w1.heap.size w4 S4.out.b AL4.out.1 (by have := SZ.out; omega) (fun g hg => ⟨fun z => by have := S1Z.out.2.2 g (.inr (.inl z)); have := XL.out g hg; omega, fun z => by have := S1Z.out.2.2 g (.inr (.inr z)); have := XL.out g hg; omega⟩) (fun g hg => hg) (fun g hg => by have := XL.out g hg; have := SZ.out; omega) (by have := HF.out.2.2; omega) (by have := LB.out; have := HF.out.2.2; omega) (fun y hy => by have := LB.out.1 y hy; omega)
  clear AL1 AL2
  go_wp2_with fail
  refine AC1.out.mono ?_
  rintro e w5 ⟨rfl, bk⟩
  obtain ⟨W5, M5, s5, hw5, hm5⟩ := S4.out.bookP bk (fun g hg => ⟨by have := XL.out g hg; have := S1Z.out; omega, fun z => by have := S1Z.out.2.2 g (.inl z); have := XL.out g hg; omega, by have := XL.out g hg; have := S1Z.out; omega⟩)
  have S5 : Hid (ST Z R Q w S B C W M S B C W5 M5 t r aa an ac fa fn fc ma mn mc (N + 2 * ys.length + 1) [.pointer (some ⟨R, 0, none⟩), .int .i64 ((r.now : Nat) : Int), .slice aa an ac, .slice fa fn fc, .slice ma mn mc] [.int .i64 6, .bool o.other, .string o.lt, .int .i64 o.id, .bool o.ack, .slice o.xa o.xn o.xc] w5) := s5
  have AL5 : Hid (AccL w2.heap.size w5 (.slice la ll lc) zs) := AccL.kpx AL4.out.2.1 bk.k (fun g hg hz => by
    have h1 := YL.out g hg
    rcases hz with hz | hz
    · have := S1Z.out.2.2 g (.inr (.inl hz)); have := SZ.out; omega
    · have := XL.out g hz; omega)
  have HW5 : Hid ((∀ g, W5 g → W g ∨ w4.heap.size ≤ g) ∧ (∀ g, M5 g → M g ∨ ((Value.slice ka kl kc).ownBlock = some g ∨ ∃ y ∈ ys, bkOf y = some g) ∨ w4.heap.size ≤ g) ∧ w4.heap.size ≤ w5.heap.size) := ⟨hw5, hm5, bk.k.size⟩
  clear AC1 bk s5 hw5 hm5 S4 AL4
  have SA2 : Hid (Calls Try.prog 25 #[.slice la ll lc, .slice aa an ac] w5 fun e w' => e = .returned (.bool true) ∧ Below w5.heap.size w5 w') := (sameAcc_yes zs r.ac (.slice la ll lc) (.slice aa an ac) w5 (by have := LB.out; have := HF.out.2.2; omega) (AL5.out.rd (fun y hy => by have := LB.out.2.1 y hy; omega)) ⟨S5.out.rv.acc, fun y hy => ⟨(S5.out.rv.ba y hy).1, by have := FXH.out.2.2.2.2.2.2.2.2.2.2 y hy; omega⟩⟩ LB.out.2.2.2.2.2).mono fun e w' z => ⟨z.1, z.2⟩
  have p2 := S5.out.bp.cell 2 _ rfl
  have pL := S5.out.bp.lt
  go_wp2_with fail
  refine SA2.out.mono ?_
  rintro e w6 ⟨rfl, b6⟩
  have S6 : Hid (ST Z R Q w S B C W M S B C W5 M5 t r aa an ac fa fn fc ma mn mc (N + 2 * ys.length + 1) [.pointer (some ⟨R, 0, none⟩), .int .i64 ((r.now : Nat) : Int), .slice aa an ac, .slice fa fn fc, .slice ma mn mc] [.int .i64 6, .bool o.other, .string o.lt, .int .i64 o.id, .bool o.ack, .slice o.xa o.xn o.xc] w6) := S5.out.below b6
  have AL6 : Hid (AccL w2.heap.size w6 (.slice la ll lc) zs ∧ w5.heap.size ≤ w6.heap.size) := ⟨AccL.kpx AL5.out (Kp.of_below b6 (fun _ => False)) (fun _ _ z => z), b6.size⟩
  clear SA2 b6 S5 AL5 p2 pL
  have AC2 : Hid (Calls Try.prog 26 #[.pointer (some ⟨Q, 0, none⟩), .slice la ll lc] w6 fun e w' => e = .returned (.tuple #[]) ∧ BkP Q (N + 2 * ys.length + 1 + 2 * zs.length + 1) W5 M5 (fun g => (Value.slice la ll lc).ownBlock = some g ∨ ∃ y ∈ zs, bkOf y = some g) w6 w') := acd_at Q (N + 2 * ys.length + 1) W5 M5 _ zs la ll lc w2.heap.size w6 S6.out.b AL6.out.1 (by have := SZ.out; have := HW5.out.2.2; have := AL6.out.2; omega) (fun g hg => by
    have h1 := YL.out g hg
    have h2 := SZ.out
    refine ⟨fun z => ?_, fun z => ?_⟩
    · rcases HW5.out.1 g z with y | y
      · have := S1Z.out.2.2 g (.inr (.inl y)); omega
      · omega
    · rcases HW5.out.2.1 g z with y | y | y
      · have := S1Z.out.2.2 g (.inr (.inr y)); omega
      · have := XL.out g y; omega
      · omega) (fun g hg => hg) (fun g hg => by have := YL.out g hg; have := SZ.out; have := HW5.out.2.2; have := AL6.out.2; omega) (by have := HF.out.2.2; have := LB.out; omega) (by have := LB.out; have := HF.out.2.2; omega) (fun y hy => by have := LB.out.2.1 y hy; omega)
  go_wp2_with fail
  refine AC2.out.mono ?_
  rintro e w7 ⟨rfl, bk⟩
  obtain ⟨W8, M8, s8, -, -⟩ := S6.out.bookP bk (fun g hg => ⟨by have := YL.out g hg; have := S1Z.out; have := SZ.out; omega, fun z => by have := S1Z.out.2.2 g (.inl z); have := YL.out g hg; have := SZ.out; omega, by have := YL.out g hg; have := S1Z.out; have := SZ.out; omega⟩)
  have S8 : Hid (ST Z R Q w S B C W M S B C W8 M8 t r aa an ac fa fn fc ma mn mc (N + 2 * ys.length + 1 + 2 * zs.length + 1) [.pointer (some ⟨R, 0, none⟩), .int .i64 ((r.now : Nat) : Int), .slice aa an ac, .slice fa fn fc, .slice ma mn mc] [.int .i64 6, .bool o.other, .string o.lt, .int .i64 o.id, .bool o.ack, .slice o.xa o.xn o.xc] w7) := s8
  clear AC2 bk s8 S6 AL6
  obtain ⟨f1, f2⟩ := S8.out.fin (n := n) (N0 := N) HF.out.1 (HF.out.2.1.mono (by omega)) (by have := LB.out; have := HF.out.2.2; omega) (.pointer (some ⟨R, 0, none⟩)) (.int .i64 ((r.now : Nat) : Int)) (.slice aa an ac) (.slice fa fn fc) (.slice ma mn mc)
  have FB := (show Hid _ from f2)
  have FS := (show Hid _ from f1)
  clear f1 f2
  have z0 := S8.out.bz.cell 0 _ rfl
  have z1 := S8.out.bz.cell 1 _ rfl
  have z2 := S8.out.bz.cell 2 _ rfl
  have z3 := S8.out.bz.cell 3 _ rfl
  have z4 := S8.out.bz.cell 4 _ rfl
  have zL := S8.out.bz.lt
  have p0 := S8.out.bp.cell 0 _ rfl
  have p1 := S8.out.bp.cell 1 _ rfl
  have p2 := S8.out.bp.cell 2 _ rfl
  have p3 := S8.out.bp.cell 3 _ rfl
  have p4 := S8.out.bp.cell 4 _ rfl
  have pL := S8.out.bp.lt
  have zF := S8.out.bz.fz
  clear S8
  go_wp2_with fail
  exact ret_blk_tmp rfl rfl (Z + 1 + 1) _ [.pointer (some ⟨R, 0, none⟩), .int .i64 ((r.now : Nat) : Int), .slice aa an ac, .slice fa fn fc, .slice ma mn mc] _ rfl FB.out Try.underlying37 rfl (by kernel_rfl) ⟨_, _, _, _, _, _, _, _, _, _, _, _, _, _, _, _, rfl, FS.out⟩
end Go.Proofs.Ytcnhcdlbippjoaa

namespace Go.Proofs.Ytcnhcdlbippjoaa
open Go.RowKit NwM
set_option linter.unusedSimpArgs false
set_option maxRecDepth 40000 in
set_option maxHeartbeats 8000000 in
theorem step_tick {R Q n N : Nat} {S B C W M : Nat → Prop} {t : Nt} {r : RNt} {aa : Option Addr} {an ac : Nat} {fa : Option Addr} {fn fc : Nat} {ma : Option Addr} {mn mc : Nat} (o : OpN) (w : World) (h : PrA R S B C t r aa an ac fa fn fc ma mn mc w) (hb : BkA Q N W M w) (hd : ∀ g, S g ∨ B g ∨ C g → ¬ (W g ∨ M g)) (ok : Okp n t r) (hn : n ≤ 149797) (hN : N ≤ 900000000000) :
    Calls Try.prog 11 #[.agg #[.pointer (some ⟨R, 0, none⟩), .int .i64 ((r.now : Nat) : Int), .slice aa an ac, .slice fa fn fc, .slice ma mn mc], .agg #[.int .i64 4, .bool o.other, .string o.lt, .int .i64 o.id, .bool o.ack, .slice o.xa o.xn o.xc], .pointer (some ⟨Q, 0, none⟩)] w (SA R Q n N S B C W M w) := by
  have HF : Hid (Rel t r ∧ Okp n t r ∧ n ≤ 149797 ∧ N ≤ 900000000000) := ⟨h.rel, ok, hn, hN⟩
  have S1 : Hid (ST w.heap.size R Q w S B C W M S B C W M t r aa an ac fa fn fc ma mn mc N [.pointer (some ⟨R, 0, none⟩), .int .i64 ((r.now : Nat) : Int), .slice aa an ac, .slice fa fn fc, .slice ma mn mc] [.int .i64 4, .bool o.other, .string o.lt, .int .i64 o.id, .bool o.ack, .slice o.xa o.xn o.xc] (((w.alloc (.cells #[.pointer (some ⟨R, 0, none⟩), .int .i64 ((r.now : Nat) : Int), .slice aa an ac, .slice fa fn fc, .slice ma mn mc] 37)).alloc (.cells #[.int .i64 4, .bool o.other, .string o.lt, .int .i64 o.id, .bool o.ack, .slice o.xa o.xn o.xc] 45)).alloc (.cells #[.pointer none, .int .i64 0, .slice none 0 0, .slice none 0 0, .slice none 0 0] 37))) := ST.start h hb hd _
  have FX := ok.facts h.rel
  have FXH : Hid (sz t ≤ 6 * n ∧ t.now ≤ n ∧ r.now ≤ n ∧ r.ms.length ≤ 6 * n ∧ r.ac.length ≤ 6 * n ∧ t.ac.length ≤ 6 * n ∧ t.fs.length ≤ 4096 ∧ r.fs.length ≤ 4096 ∧ (∀ f ∈ r.fs, isF f) ∧ (∀ a ∈ t.ac, a.bs.length ≤ 1048576) ∧ ∀ a ∈ r.ac, a.bs.length ≤ 1048576) := FX
  clear FX
  clear h hb hd ok hn hN
  go_enter Try.func11, Try.ntmps11
  go_upto_region 1 with fail
  obtain ⟨Z, hZ⟩ : ∃ Z, w.heap.size = Z := ⟨_, rfl⟩
  rw [hZ] at S1 ⊢
  clear hZ
  generalize ((w.alloc (.cells #[.pointer (some ⟨R, 0, none⟩), .int .i64 ((r.now : Nat) : Int), .slice aa an ac, .slice fa fn fc, .slice ma mn mc] 37)).alloc (.cells #[.int .i64 4, .bool o.other, .string o.lt, .int .i64 o.id, .bool o.ack, .slice o.xa o.xn o.xc] 45)).alloc (.cells #[.pointer none, .int .i64 0, .slice none 0 0, .slice none 0 0, .slice none 0 0] 37) = w1 at *
  have o0 := S1.out.bo.cell 0 _ rfl
  have lO := S1.out.bo.lt
  have RT : Hid (Calls Try.prog 19 #[.agg #[.int .i64 ((r.now : Nat) : Int), .slice aa an ac, .slice fa fn fc, .slice ma mn mc]] w1 (fun e w' => ∃ v' a n c, e = .returned (.tuple #[v', .slice a n c]) ∧ RfPost C w1 (rtick r).1 v' w' ∧ RowV 3 w1.heap.size w' (.slice a n c) ((rtick r).2.map iv))) := rTick_at C r w1 _ ⟨_, _, _, _, _, _, _, _, _, rfl, S1.out.rv⟩ (by have := FXH.out; have := HF.out.2.2; omega) (by have := FXH.out; have := HF.out.2.2; omega) (by have := FXH.out; have := HF.out.2.2; omega) FXH.out.2.2.2.2.2.2.2.2.1
  have p1 := S1.out.bp.cell 1 _ rfl
  have p2 := S1.out.bp.cell 2 _ rfl
  have p3 := S1.out.bp.cell 3 _ rfl
  have p4 := S1.out.bp.cell 4 _ rfl
  have pL := S1.out.bp.lt
  go_wp2_with fail
  refine RT.out.mono ?_
  rintro e w2 ⟨v2, ia, il, ic, rfl, ⟨⟨C2, ⟨ab, bn, bc, fb, gn, gc, mb, nn, nc, rfl, rv2⟩, hc2⟩, b2⟩, ri⟩
  have S2 : Hid (ST Z R Q w S B C W M S B C2 W M t (rtick r).1 ab bn bc fb gn gc mb nn nc N [.pointer (some ⟨R, 0, none⟩), .int .i64 ((r.now : Nat) : Int), .slice aa an ac, .slice fa fn fc, .slice ma mn mc] [.int .i64 4, .bool o.other, .string o.lt, .int .i64 o.id, .bool o.ack, .slice o.xa o.xn o.xc] w2) := S1.out.refP hc2 b2 rv2
  have RI : Hid (RowV 3 w1.heap.size w2 (.slice ia il ic) ((rtick r).2.map iv)) := ri
  have RIS : Hid (∀ g, (Value.slice ia il ic).ownBlock = some g → ¬ S g) := fun g e hs => by have := ri.block_ge e; have := S1.out.net.s hs; omega
  have LZ : Hid (Z + 1 + 1 < w1.heap.size) := S1.out.bz.lt
  clear RT rv2 hc2 b2 ri S1 p1 p2 p3 p4 pL o0 lO
  go_upto_region 13 with fail
  have S3 : Hid (ST Z R Q w S B C W M S B C2 W M t (rtick r).1 ab bn bc fb gn gc mb nn nc N [.pointer (some ⟨R, 0, none⟩), .int .i64 ((r.now : Nat) : Int), .slice aa an ac, .slice fa fn fc, .slice ma mn mc] [.int .i64 4, .bool o.other, .string o.lt, .int .i64 o.id, .bool o.ack, .slice o.xa o.xn o.xc] (w2.alloc (.cells #[.int .i64 (((rtick r).1.now : Nat) : Int), .slice ab bn bc, .slice fb gn gc, .slice mb nn nc] 34))) := S2.out.below (below_alloc _ _)
  have BG : Hid (Blk w2.heap.size 34 [.int .i64 (((rtick r).1.now : Nat) : Int), .slice ab bn bc, .slice fb gn gc, .slice mb nn nc] (w2.alloc (.cells #[.int .i64 (((rtick r).1.now : Nat) : Int), .slice ab bn bc, .slice fb gn gc, .slice mb nn nc] 34)) ∧ RowV 3 w1.heap.size (w2.alloc (.cells #[.int .i64 (((rtick r).1.now : Nat) : Int), .slice ab bn bc, .slice fb gn gc, .slice mb nn nc] 34)) (.slice ia il ic) ((rtick r).2.map iv) ∧ Z + 1 + 1 < w1.heap.size ∧ Z + 1 + 1 < w2.heap.size) := ⟨Blk.new _ _ _, RowV.later RI.out (below_alloc _ _), LZ.out, S2.out.bz.lt⟩
  clear RI S2
  generalize w2.alloc (.cells #[.int .i64 (((rtick r).1.now : Nat) : Int), .slice ab bn bc, .slice fb gn gc, .slice mb nn nc] 34) = w3 at *
  obtain ⟨G, hG⟩ : ∃ G, w2.heap.size = G := ⟨_, rfl⟩
  rw [hG] at BG ⊢
  clear hG
  have S4 : Hid (ST Z R Q w S B C W M S B C2 W M t (rtick r).1 ab bn bc fb gn gc mb nn nc N [.pointer (some ⟨R, 0, none⟩), .int .i64 (((rtick r).1.now : Nat) : Int), .slice ab bn bc, .slice fb gn gc, .slice mb nn nc] [.int .i64 4, .bool o.other, .string o.lt, .int .i64 o.id, .bool o.ack, .slice o.xa o.xn o.xc] ((((w3.setCell ⟨Z, 1, none⟩ (.int .i64 (((rtick r).1.now : Nat) : Int))).setCell ⟨Z, 2, none⟩ (.slice ab bn bc)).setCell ⟨Z, 3, none⟩ (.slice fb gn gc)).setCell ⟨Z, 4, none⟩ (.slice mb nn nc))) := S3.out.putR _ _ _ _
  have RI4 : Hid (RowV 3 w1.heap.size ((((w3.setCell ⟨Z, 1, none⟩ (.int .i64 (((rtick r).1.now : Nat) : Int))).setCell ⟨Z, 2, none⟩ (.slice ab bn bc)).setCell ⟨Z, 3, none⟩ (.slice fb gn gc)).setCell ⟨Z, 4, none⟩ (.slice mb nn nc)) (.slice ia il ic) ((rtick r).2.map iv)) := RowV.kept BG.out.2.1 (grownBy_trans (grownBy_trans (grownBy_trans (setCell_grown w3 Z 1 _) (setCell_grown _ Z 2 _)) (setCell_grown _ Z 3 _)) (setCell_grown _ Z 4 _)) (fun g e z => by injection z with z; have := BG.out.2.1.block_ge e; have := BG.out.2.2.1; omega)
  have p1 := S3.out.bp.cell 1 _ rfl
  have p2 := S3.out.bp.cell 2 _ rfl
  have p3 := S3.out.bp.cell 3 _ rfl
  have p4 := S3.out.bp.cell 4 _ rfl
  have pL := S3.out.bp.lt
  have pF := S3.out.bp.fz
  have g0 := BG.out.1.cell 0 _ rfl
  have g1 := BG.out.1.cell 1 _ rfl
  have g2 := BG.out.1.cell 2 _ rfl
  have g3 := BG.out.1.cell 3 _ rfl
  have gL := BG.out.1.lt
  have gz : G ≠ Z := by have := BG.out.2.2.2; omega
  have gz2 : Z ≠ G := fun e => gz e.symm
  clear S3
  go_upto_region 14 with fail
  clear p1 p2 p3 p4 pL pF g0 g1 g2 g3 gL gz gz2 BG
  generalize (((w3.setCell ⟨Z, 1, none⟩ (.int .i64 (((rtick r).1.now : Nat) : Int))).setCell ⟨Z, 2, none⟩ (.slice ab bn bc)).setCell ⟨Z, 3, none⟩ (.slice fb gn gc)).setCell ⟨Z, 4, none⟩ (.slice mb nn nc) = w4 at *
  have TK : Hid (Calls Try.prog 20 #[.pointer (some ⟨R, 0, none⟩)] w4 (TickAns R S B t w4)) := tick_at R S B t w4 S4.out.net (by have := FXH.out; have := HF.out.2.2; omega) (by have := FXH.out; have := HF.out.2.2; omega)
  have p0 := S4.out.bp.cell 0 _ rfl
  have pL := S4.out.bp.lt
  go_wp2_with fail
  refine TK.out.mono ?_
  rintro e w5 ⟨ja, jl, jc, S5, rfl, rj, np, nj⟩
  have S6 : Hid (ST Z R Q w S B C W M S5 B C2 W M (tick t).1 (rtick r).1 ab bn bc fb gn gc mb nn nc N [.pointer (some ⟨R, 0, none⟩), .int .i64 (((rtick r).1.now : Nat) : Int), .slice ab bn bc, .slice fb gn gc, .slice mb nn nc] [.int .i64 4, .bool o.other, .string o.lt, .int .i64 o.id, .bool o.ack, .slice o.xa o.xn o.xc] w5) := S4.out.netP np
  have HT := HF.out.1.tick
  have SZ5 : Hid (w4.heap.size ≤ w5.heap.size) := np.k.size
  have RJ : Hid (RowV 3 w4.heap.size w5 (.slice ja jl jc) ((tick t).2.map iv) ∧ (∀ g, (Value.slice ja jl jc).ownBlock = some g → ¬ S5 g) ∧ RowV 3 w1.heap.size w5 (.slice ia il ic) ((rtick r).2.map iv) ∧ (∀ g, B g ∨ C2 g ∨ W g ∨ M g → g < w4.heap.size) ∧ w.heap.size ≤ w4.heap.size ∧ Z + 1 + 1 < w4.heap.size ∧ (tick t).2.length ≤ 140737488355328) := ⟨rj, nj, RI4.out.kp np.k (fun g e hs => by
      have h1 := RI4.out.block_ge e
      have h2 := S4.out.sw g hs
      have h3 := S4.out.net.s hs
      exact RIS.out g e hs), fun g hg => S4.out.lt g (by rcases hg with z | z | z | z; exact .inl (.inr (.inl z)); exact .inl (.inr (.inr z)); exact .inr (.inl z); exact .inr (.inr z)), S4.out.k.size, S4.out.bz.lt, by have := tick_ids t HF.out.2.1.sm.fl; have := FXH.out; have := HF.out.2.2; omega⟩
  clear TK rj np nj S4 RI4 p0 pL
  have SI : Hid (Calls Try.prog 21 #[.slice ja jl jc, .slice ia il ic] w5 fun e w' => e = .returned (.bool true) ∧ ∃ n, w' = w5.drewN n) := by
    have := sameIDs_at (tick t).2 (rtick r).2 (.slice ja jl jc) (.slice ia il ic) w5 RJ.out.2.2.2.2.2.2 (RowV.rd RJ.out.1) (RowV.rd RJ.out.2.2.1)
    rw [decide_eq_true HT.2] at this
    exact this
  go_wp2_with fail
  refine SI.out.mono ?_
  rintro e w6 ⟨rfl, dn, hdn⟩
  have b6 : Below w5.heap.size w5 w6 := by rw [hdn]; exact below_drewN (Below.refl _ _) dn
  have S7 : Hid (ST Z R Q w S B C W M S5 B C2 W M (tick t).1 (rtick r).1 ab bn bc fb gn gc mb nn nc N [.pointer (some ⟨R, 0, none⟩), .int .i64 (((rtick r).1.now : Nat) : Int), .slice ab bn bc, .slice fb gn gc, .slice mb nn nc] [.int .i64 4, .bool o.other, .string o.lt, .int .i64 o.id, .bool o.ack, .slice o.xa o.xn o.xc] w6) := S6.out.below b6
  have HX : Hid (∀ g, (Value.slice ja jl jc).ownBlock = some g → w.heap.size ≤ g ∧ ¬ (S5 g ∨ B g ∨ C2 g) ∧ ¬ (g = Z ∨ g = Z + 1 ∨ g = Z + 1 + 1) ∧ ¬ W g ∧ ¬ M g) := fun g e => by
    have h1 := RJ.out.1.block_ge e
    have h2 := RJ.out.2.2.2.1
    have h3 := RJ.out.2.2.2.2
    refine ⟨by omega, fun hh => ?_, by omega, fun hh => ?_, fun hh => ?_⟩
    · rcases hh with hh | hh | hh
      · exact RJ.out.2.1 g e hh
      · have := h2 g (.inl hh); omega
      · have := h2 g (.inr (.inl hh)); omega
    · have := h2 g (.inr (.inr (.inl hh))); omega
    · have := h2 g (.inr (.inr (.inr hh))); omega
  have ID : Hid (Calls Try.prog 22 #[.pointer (some ⟨Q, 0, none⟩), .slice ja jl jc] w6 fun e w' => e = .returned (.tuple #[]) ∧ BkP Q (N + 1) W M (fun g => (Value.slice ja jl jc).ownBlock = some g) w6 w') := ids_at Q N W M (tick t).2 ja jl jc w4.heap.size w6 S7.out.b (RowV.later RJ.out.1 b6) (Nat.le_trans (by have := RJ.out.1; exact SZ5.out) b6.size) (fun g e => (HX.out g e).2.2.2) (by have := HF.out.2.2; omega) (by have := tick_ids t HF.out.2.1.sm.fl; have := FXH.out; have := HF.out.2.2; omega)
  clear SI hdn b6 S6
  go_wp2_with fail
  refine ID.out.mono ?_
  rintro e w7 ⟨rfl, bk⟩
  obtain ⟨W8, M8, s8, -, -⟩ := S7.out.bookP bk (fun g e => ⟨(HX.out g e).1, (HX.out g e).2.1, (HX.out g e).2.2.1⟩)
  have S8 : Hid (ST Z R Q w S B C W M S5 B C2 W8 M8 (tick t).1 (rtick r).1 ab bn bc fb gn gc mb nn nc (N + 1) [.pointer (some ⟨R, 0, none⟩), .int .i64 (((rtick r).1.now : Nat) : Int), .slice ab bn bc, .slice fb gn gc, .slice mb nn nc] [.int .i64 4, .bool o.other, .string o.lt, .int .i64 o.id, .bool o.ack, .slice o.xa o.xn o.xc] w7) := s8
  clear ID bk s8 S7 HX RJ
  obtain ⟨f1, f2⟩ := S8.out.fin (n := n) (N0 := N) HT.1 (HF.out.2.1.tick HF.out.1) (by omega) (.pointer (some ⟨R, 0, none⟩)) (.int .i64 (((rtick r).1.now : Nat) : Int)) (.slice ab bn bc) (.slice fb gn gc) (.slice mb nn nc)
  have FB := (show Hid _ from f2)
  have FS := (show Hid _ from f1)
  clear f1 f2
  have z0 := S8.out.bz.cell 0 _ rfl
  have z1 := S8.out.bz.cell 1 _ rfl
  have z2 := S8.out.bz.cell 2 _ rfl
  have z3 := S8.out.bz.cell 3 _ rfl
  have z4 := S8.out.bz.cell 4 _ rfl
  have zL := S8.out.bz.lt
  have p0 := S8.out.bp.cell 0 _ rfl
  have p1 := S8.out.bp.cell 1 _ rfl
  have p2 := S8.out.bp.cell 2 _ rfl
  have p3 := S8.out.bp.cell 3 _ rfl
  have p4 := S8.out.bp.cell 4 _ rfl
  have pL := S8.out.bp.lt
  have zF := S8.out.bz.fz
  clear S8
  go_wp2_with fail
  exact ret_blk_tmp rfl rfl (Z + 1 + 1) _ [.pointer (some ⟨R, 0, none⟩), .int .i64 (((rtick r).1.now : Nat) : Int), .slice ab bn bc, .slice fb gn gc, .slice mb nn nc] _ rfl FB.out Try.underlying37 rfl (by kernel_rfl) ⟨_, _, _, _, _, _, _, _, _, _, _, _, _, _, _, _, rfl, FS.out⟩
end Go.Proofs.Ytcnhcdlbippjoaa

namespace Go.Proofs.Ytcnhcdlbippjoaa
open Go.RowKit NwM
set_option linter.unusedSimpArgs false
set_option maxRecDepth 40000 in
set_option maxHeartbeats 8000000 in
theorem step_send {R Q n N : Nat} {S B C W M : Nat → Prop} {t : Nt} {r : RNt} {aa : Option Addr} {an ac : Nat} {fa : Option Addr} {fn fc : Nat} {ma : Option Addr} {mn mc : Nat} (o : OpN) (w : World) (h : PrA R S B C t r aa an ac fa fn fc ma mn mc w) (hb : BkA Q N W M w) (hd : ∀ g, S g ∨ B g ∨ C g → ¬ (W g ∨ M g)) (ok : Okp n t r) (hn : n ≤ 149797) (hN : N ≤ 900000000000) (hr : RdB w (.slice o.xa o.xn o.xc) o.bs) (ho : 0 < o.bs.length → ∀ g, (Value.slice o.xa o.xn o.xc).ownBlock = some g → ¬ S g ∧ g < w.heap.size) (hl : o.bs.length ≤ 1048576) :
    Calls Try.prog 11 #[.agg #[.pointer (some ⟨R, 0, none⟩), .int .i64 ((r.now : Nat) : Int), .slice aa an ac, .slice fa fn fc, .slice ma mn mc], .agg #[.int .i64 3, .bool o.other, .string o.lt, .int .i64 o.id, .bool o.ack, .slice o.xa o.xn o.xc], .pointer (some ⟨Q, 0, none⟩)] w (SA R Q n N S B C W M w) := by
  have HF : Hid (Rel t r ∧ Okp n t r ∧ n ≤ 149797 ∧ N ≤ 900000000000) := ⟨h.rel, ok, hn, hN⟩
  have S1 : Hid (ST w.heap.size R Q w S B C W M S B C W M t r aa an ac fa fn fc ma mn mc N [.pointer (some ⟨R, 0, none⟩), .int .i64 ((r.now : Nat) : Int), .slice aa an ac, .slice fa fn fc, .slice ma mn mc] [.int .i64 3, .bool o.other, .string o.lt, .int .i64 o.id, .bool o.ack, .slice o.xa o.xn o.xc] (((w.alloc (.cells #[.pointer (some ⟨R, 0, none⟩), .int .i64 ((r.now : Nat) : Int), .slice aa an ac, .slice fa fn fc, .slice ma mn mc] 37)).alloc (.cells #[.int .i64 3, .bool o.other, .string o.lt, .int .i64 o.id, .bool o.ack, .slice o.xa o.xn o.xc] 45)).alloc (.cells #[.pointer none, .int .i64 0, .slice none 0 0, .slice none 0 0, .slice none 0 0] 37))) := ST.start h hb hd _
  have HO : Hid (RdB w (.slice o.xa o.xn o.xc) o.bs ∧ (0 < o.bs.length → ∀ g, (Value.slice o.xa o.xn o.xc).ownBlock = some g → ¬ S g ∧ g < w.heap.size) ∧ o.bs.length ≤ 1048576) := ⟨hr, ho, hl⟩
  have FX := ok.facts h.rel
  have FXH : Hid (sz t ≤ 6 * n ∧ t.now ≤ n ∧ r.ms.length ≤ 6 * n) := ⟨FX.1, FX.2.1, FX.2.2.2.1⟩
  have BW : Hid (Below w.heap.size w (((w.alloc (.cells #[.pointer (some ⟨R, 0, none⟩), .int .i64 ((r.now : Nat) : Int), .slice aa an ac, .slice fa fn fc, .slice ma mn mc] 37)).alloc (.cells #[.int .i64 3, .bool o.other, .string o.lt, .int .i64 o.id, .bool o.ack, .slice o.xa o.xn o.xc] 45)).alloc (.cells #[.pointer none, .int .i64 0, .slice none 0 0, .slice none 0 0, .slice none 0 0] 37))) := below_trans (below_trans (below_alloc _ _) (below_alloc _ _)) (below_alloc _ _)
  clear FX hr ho hl
  clear h hb hd ok hn hN
  go_enter Try.func11, Try.ntmps11
  go_upto_region 1 with fail
  obtain ⟨Z, hZ⟩ : ∃ Z, w.heap.size = Z := ⟨_, rfl⟩
  rw [hZ] at S1 ⊢
  clear hZ
  generalize ((w.alloc (.cells #[.pointer (some ⟨R, 0, none⟩), .int .i64 ((r.now : Nat) : Int), .slice aa an ac, .slice fa fn fc, .slice ma mn mc] 37)).alloc (.cells #[.int .i64 3, .bool o.other, .string o.lt, .int .i64 o.id, .bool o.ack, .slice o.xa o.xn o.xc] 45)).alloc (.cells #[.pointer none, .int .i64 0, .slice none 0 0, .slice none 0 0, .slice none 0 0] 37) = w1 at *
  have o0 := S1.out.bo.cell 0 _ rfl
  have lO := S1.out.bo.lt
  have SN : Hid (Calls Try.prog 18 #[.agg #[.pointer (some ⟨R, 0, none⟩), .int .i64 ((r.now : Nat) : Int), .slice aa an ac, .slice fa fn fc, .slice ma mn mc], .agg #[.int .i64 3, .bool o.other, .string o.lt, .int .i64 o.id, .bool o.ack, .slice o.xa o.xn o.xc]] w1 fun e w' => ∃ p q S' B' C' ab bn bc fb gn gc mb nn nc, e = .returned (.tuple #[.agg #[.pointer (some ⟨R, 0, none⟩), .int .i64 ((r.now : Nat) : Int), .slice ab bn bc, .slice fb gn gc, .slice mb nn nc], .bool true]) ∧ (p.ack = false ∧ p.id = o.id ∧ p.bs = o.bs) ∧ PrPost R S B C w1 (hand t p) (rhand r q) S' B' C' ab bn bc fb gn gc mb nn nc w') :=
    sent_at (R := R) (S := S) (B := B) (C := C) (t := t) (r := r) ⟨3, o.other, o.lt, o.id, o.ack, o.xa, o.xn, o.xc, o.bs⟩ w1 ⟨S1.out.net, S1.out.rv, HF.out.1, S1.out.cs⟩ (Rd.later HO.out.1 BW.out) (fun h0 g e => (HO.out.2.1 h0 g e).1) (fun h0 g e => Nat.lt_of_lt_of_le (HO.out.2.1 h0 g e).2 BW.out.size) (by have := HO.out.2.2; show o.bs.length ≤ _; omega) (by have := FXH.out; have := HF.out.2.2; omega) (by have := FXH.out; have := HF.out.2.2; omega) (by have := FXH.out; have := HF.out.2.2; omega)
  have p0 := S1.out.bp.cell 0 _ rfl
  have p1 := S1.out.bp.cell 1 _ rfl
  have p2 := S1.out.bp.cell 2 _ rfl
  have p3 := S1.out.bp.cell 3 _ rfl
  have p4 := S1.out.bp.cell 4 _ rfl
  have pL := S1.out.bp.lt
  have q1 := S1.out.bo.cell 1 _ rfl
  have q2 := S1.out.bo.cell 2 _ rfl
  have q3 := S1.out.bo.cell 3 _ rfl
  have q4 := S1.out.bo.cell 4 _ rfl
  have q5 := S1.out.bo.cell 5 _ rfl
  have qL := S1.out.bo.lt
  go_wp2_with fail
  refine SN.out.mono ?_
  rintro e w2 ⟨p, q, S2, B2, C2, ab, bn, bc, fb, gn, gc, mb, nn, nc, rfl, hp, np⟩
  have S3 : Hid (ST Z R Q w S B C W M S2 B2 C2 W M (hand t p) (rhand r q) ab bn bc fb gn gc mb nn nc N [.pointer (some ⟨R, 0, none⟩), .int .i64 ((r.now : Nat) : Int), .slice aa an ac, .slice fa fn fc, .slice ma mn mc] [.int .i64 3, .bool o.other, .string o.lt, .int .i64 o.id, .bool o.ack, .slice o.xa o.xn o.xc] w2) := S1.out.pairP np
  have HR : Hid (Rel (hand t p) (rhand r q) ∧ Okp (n + 1) (hand t p) (rhand r q)) := ⟨np.p.rel, HF.out.2.1.hand HF.out.1 hp.1 (by rw [hp.2.2]; exact HO.out.2.2)⟩
  clear SN np S1 p0 p1 p2 p3 p4 pL q1 q2 q3 q4 q5 qL o0 lO hp
  obtain ⟨f1, f2⟩ := S3.out.fin (n := n) (N0 := N) HR.out.1 HR.out.2 (by omega) (.pointer (some ⟨R, 0, none⟩)) (.int .i64 ((r.now : Nat) : Int)) (.slice ab bn bc) (.slice fb gn gc) (.slice mb nn nc)
  have FB := (show Hid _ from f2)
  have FS := (show Hid _ from f1)
  clear f1 f2
  have z0 := S3.out.bz.cell 0 _ rfl
  have z1 := S3.out.bz.cell 1 _ rfl
  have z2 := S3.out.bz.cell 2 _ rfl
  have z3 := S3.out.bz.cell 3 _ rfl
  have z4 := S3.out.bz.cell 4 _ rfl
  have zL := S3.out.bz.lt
  have zF := S3.out.bz.fz
  clear S3
  go_wp2_with fail
  refine ret_blk_tmp rfl rfl (Z + 1 + 1) _ [.pointer (some ⟨R, 0, none⟩), .int .i64 ((r.now : Nat) : Int), .slice ab bn bc, .slice fb gn gc, .slice mb nn nc] _ rfl FB.out Try.underlying37 rfl (by kernel_rfl) ⟨hand t p, rhand r q, _, _, _, _, _, ab, bn, bc, fb, gn, gc, mb, nn, nc, ?_, FS.out⟩
  rw [prL, rhand_now]
  rfl
end Go.Proofs.Ytcnhcdlbippjoaa

namespace Go.Proofs.Ytcnhcdlbippjoaa
open Go.RowKit NwM
set_option linter.unusedSimpArgs false
set_option maxRecDepth 40000 in
set_option maxHeartbeats 8000000 in
theorem step_none {R Q n N : Nat} {S B C W M : Nat → Prop} {t : Nt} {r : RNt} {aa : Option Addr} {an ac : Nat} {fa : Option Addr} {fn fc : Nat} {ma : Option Addr} {mn mc : Nat} (o : OpN) (K : Int) (w : World) (h : PrA R S B C t r aa an ac fa fn fc ma mn mc w) (hb : BkA Q N W M w) (hd : ∀ g, S g ∨ B g ∨ C g → ¬ (W g ∨ M g)) (ok : Okp n t r) (hn : n ≤ 149797) (hN : N ≤ 900000000000) (h1 : (K == 1) = false) (h2 : (K == 2) = false) (h3 : (K == 3) = false) (h4 : (K == 4) = false) (h5 : (K == 5) = false) (h6 : (K == 6) = false) (h7 : (K == 7) = false) :
    Calls Try.prog 11 #[.agg #[.pointer (some ⟨R, 0, none⟩), .int .i64 ((r.now : Nat) : Int), .slice aa an ac, .slice fa fn fc, .slice ma mn mc], .agg #[.int .i64 K, .bool o.other, .string o.lt, .int .i64 o.id, .bool o.ack, .slice o.xa o.xn o.xc], .pointer (some ⟨Q, 0, none⟩)] w (SA R Q n N S B C W M w) := by
  have HF : Hid (Rel t r ∧ Okp n t r ∧ n ≤ 149797 ∧ N ≤ 900000000000) := ⟨h.rel, ok, hn, hN⟩
  have S1 : Hid (ST w.heap.size R Q w S B C W M S B C W M t r aa an ac fa fn fc ma mn mc N [.pointer (some ⟨R, 0, none⟩), .int .i64 ((r.now : Nat) : Int), .slice aa an ac, .slice fa fn fc, .slice ma mn mc] [.int .i64 K, .bool o.other, .string o.lt, .int .i64 o.id, .bool o.ack, .slice o.xa o.xn o.xc] (((w.alloc (.cells #[.pointer (some ⟨R, 0, none⟩), .int .i64 ((r.now : Nat) : Int), .slice aa an ac, .slice fa fn fc, .slice ma mn mc] 37)).alloc (.cells #[.int .i64 K, .bool o.other, .string o.lt, .int .i64 o.id, .bool o.ack, .slice o.xa o.xn o.xc] 45)).alloc (.cells #[.pointer none, .int .i64 0, .slice none 0 0, .slice none 0 0, .slice none 0 0] 37))) := ST.start h hb hd _
  clear h hb hd ok hn hN
  go_enter Try.func11, Try.ntmps11
  go_upto_region 1 with fail
  obtain ⟨Z, hZ⟩ : ∃ Z, w.heap.size = Z := ⟨_, rfl⟩
  rw [hZ] at S1 ⊢
  clear hZ
  generalize ((w.alloc (.cells #[.pointer (some ⟨R, 0, none⟩), .int .i64 ((r.now : Nat) : Int), .slice aa an ac, .slice fa fn fc, .slice ma mn mc] 37)).alloc (.cells #[.int .i64 K, .bool o.other, .string o.lt, .int .i64 o.id, .bool o.ack, .slice o.xa o.xn o.xc] 45)).alloc (.cells #[.pointer none, .int .i64 0, .slice none 0 0, .slice none 0 0, .slice none 0 0] 37) = w1 at *
  have o0 := S1.out.bo.cell 0 _ rfl
  have lO := S1.out.bo.lt
  obtain ⟨f1, f2⟩ := S1.out.fin (n := n) (N0 := N) HF.out.1 (HF.out.2.1.mono (by omega)) (by omega) (.pointer (some ⟨R, 0, none⟩)) (.int .i64 ((r.now : Nat) : Int)) (.slice aa an ac) (.slice fa fn fc) (.slice ma mn mc)
  have FB := (show Hid _ from f2)
  have FS := (show Hid _ from f1)
  clear f1 f2
  have z0 := S1.out.bz.cell 0 _ rfl
  have z1 := S1.out.bz.cell 1 _ rfl
  have z2 := S1.out.bz.cell 2 _ rfl
  have z3 := S1.out.bz.cell 3 _ rfl
  have z4 := S1.out.bz.cell 4 _ rfl
  have zL := S1.out.bz.lt
  have p0 := S1.out.bp.cell 0 _ rfl
  have p1 := S1.out.bp.cell 1 _ rfl
  have p2 := S1.out.bp.cell 2 _ rfl
  have p3 := S1.out.bp.cell 3 _ rfl
  have p4 := S1.out.bp.cell 4 _ rfl
  have pL := S1.out.bp.lt
  have zF := S1.out.bz.fz
  clear S1
  go_wp2_with fail
  exact ret_blk_tmp rfl rfl (Z + 1 + 1) _ [.pointer (some ⟨R, 0, none⟩), .int .i64 ((r.now : Nat) : Int), .slice aa an ac, .slice fa fn fc, .slice ma mn mc] _ rfl FB.out Try.underlying37 rfl (by kernel_rfl) ⟨_, _, _, _, _, _, _, _, _, _, _, _, _, _, _, _, rfl, FS.out⟩
set_option maxRecDepth 40000 in
set_option maxHeartbeats 8000000 in
theorem step_calm {R Q n N : Nat} {S B C W M : Nat → Prop} {t : Nt} {r : RNt} {aa : Option Addr} {an ac : Nat} {fa : Option Addr} {fn fc : Nat} {ma : Option Addr} {mn mc : Nat} (o : OpN) (w : World) (h : PrA R S B C t r aa an ac fa fn fc ma mn mc w) (hb : BkA Q N W M w) (hd : ∀ g, S g ∨ B g ∨ C g → ¬ (W g ∨ M g)) (ok : Okp n t r) (hn : n ≤ 149797) (hN : N ≤ 900000000000) :
    Calls Try.prog 11 #[.agg #[.pointer (some ⟨R, 0, none⟩), .int .i64 ((r.now : Nat) : Int), .slice aa an ac, .slice fa fn fc, .slice ma mn mc], .agg #[.int .i64 2, .bool o.other, .string o.lt, .int .i64 o.id, .bool o.ack, .slice o.xa o.xn o.xc], .pointer (some ⟨Q, 0, none⟩)] w (SA R Q n N S B C W M w) := by
  have HF : Hid (Rel t r ∧ Okp n t r ∧ n ≤ 149797 ∧ N ≤ 900000000000) := ⟨h.rel, ok, hn, hN⟩
  have S1 : Hid (ST w.heap.size R Q w S B C W M S B C W M t r aa an ac fa fn fc ma mn mc N [.pointer (some ⟨R, 0, none⟩), .int .i64 ((r.now : Nat) : Int), .slice aa an ac, .slice fa fn fc, .slice ma mn mc] [.int .i64 2, .bool o.other, .string o.lt, .int .i64 o.id, .bool o.ack, .slice o.xa o.xn o.xc] (((w.alloc (.cells #[.pointer (some ⟨R, 0, none⟩), .int .i64 ((r.now : Nat) : Int), .slice aa an ac, .slice fa fn fc, .slice ma mn mc] 37)).alloc (.cells #[.int .i64 2, .bool o.other, .string o.lt, .int .i64 o.id, .bool o.ack, .slice o.xa o.xn o.xc] 45)).alloc (.cells #[.pointer none, .int .i64 0, .slice none 0 0, .slice none 0 0, .slice none 0 0] 37))) := ST.start h hb hd _
  clear h hb hd ok hn hN
  go_enter Try.func11, Try.ntmps11
  go_upto_region 1 with fail
  obtain ⟨Z, hZ⟩ : ∃ Z, w.heap.size = Z := ⟨_, rfl⟩
  rw [hZ] at S1 ⊢
  clear hZ
  generalize ((w.alloc (.cells #[.pointer (some ⟨R, 0, none⟩), .int .i64 ((r.now : Nat) : Int), .slice aa an ac, .slice fa fn fc, .slice ma mn mc] 37)).alloc (.cells #[.int .i64 2, .bool o.other, .string o.lt, .int .i64 o.id, .bool o.ack, .slice o.xa o.xn o.xc] 45)).alloc (.cells #[.pointer none, .int .i64 0, .slice none 0 0, .slice none 0 0, .slice none 0 0] 37) = w1 at *
  have o0 := S1.out.bo.cell 0 _ rfl
  have lO := S1.out.bo.lt
  have CM : Hid (Calls Try.prog 16 #[.pointer (some ⟨R, 0, none⟩)] w1 fun e w' => e = .returned (.tuple #[]) ∧ NPost R S B w1 (calm t) S B w') := calm_at R S B t w1 S1.out.net
  have p0 := S1.out.bp.cell 0 _ rfl
  have pL := S1.out.bp.lt
  go_wp2_with fail
  refine CM.out.mono ?_
  rintro e w2 ⟨rfl, np⟩
  have S2 : Hid (ST Z R Q w S B C W M S B C W M (calm t) r aa an ac fa fn fc ma mn mc N [.pointer (some ⟨R, 0, none⟩), .int .i64 ((r.now : Nat) : Int), .slice aa an ac, .slice fa fn fc, .slice ma mn mc] [.int .i64 2, .bool o.other, .string o.lt, .int .i64 o.id, .bool o.ack, .slice o.xa o.xn o.xc] w2) := S1.out.netP np
  clear CM np S1 p0 pL o0 lO
  have RC : Hid (Calls Try.prog 17 #[.agg #[.int .i64 ((r.now : Nat) : Int), .slice aa an ac, .slice fa fn fc, .slice ma mn mc]] w2 fun e w' => ∃ v', e = .returned v' ∧ RfPost C w2 (rcalm r) v' w') := rCalm_at C r w2 _ ⟨_, _, _, _, _, _, _, _, _, rfl, S2.out.rv⟩
  have p1 := S2.out.bp.cell 1 _ rfl
  have p2 := S2.out.bp.cell 2 _ rfl
  have p3 := S2.out.bp.cell 3 _ rfl
  have p4 := S2.out.bp.cell 4 _ rfl
  have pL := S2.out.bp.lt
  go_wp2_with fail
  refine RC.out.mono ?_
  rintro e w3 ⟨v3, rfl, ⟨C3, ⟨ab, bn, bc, fb, gn, gc, mb, nn, nc, rfl, rv3⟩, hc3⟩, b3⟩
  have S3 : Hid (ST Z R Q w S B C W M S B C3 W M (calm t) (rcalm r) ab bn bc fb gn gc mb nn nc N [.pointer (some ⟨R, 0, none⟩), .int .i64 ((r.now : Nat) : Int), .slice aa an ac, .slice fa fn fc, .slice ma mn mc] [.int .i64 2, .bool o.other, .string o.lt, .int .i64 o.id, .bool o.ack, .slice o.xa o.xn o.xc] w3) := S2.out.refP hc3 b3 rv3
  clear RC rv3 hc3 b3 S2 p1 p2 p3 p4 pL
  have S4 : Hid (ST Z R Q w S B C W M S B C3 W M (calm t) (rcalm r) ab bn bc fb gn gc mb nn nc N [.pointer (some ⟨R, 0, none⟩), .int .i64 (((rcalm r).now : Nat) : Int), .slice ab bn bc, .slice fb gn gc, .slice mb nn nc] [.int .i64 2, .bool o.other, .string o.lt, .int .i64 o.id, .bool o.ack, .slice o.xa o.xn o.xc] ((((w3.setCell ⟨Z, 1, none⟩ (.int .i64 (((rcalm r).now : Nat) : Int))).setCell ⟨Z, 2, none⟩ (.slice ab bn bc)).setCell ⟨Z, 3, none⟩ (.slice fb gn gc)).setCell ⟨Z, 4, none⟩ (.slice mb nn nc))) := S3.out.putR _ _ _ _
  have p1 := S3.out.bp.cell 1 _ rfl
  have p2 := S3.out.bp.cell 2 _ rfl
  have p3 := S3.out.bp.cell 3 _ rfl
  have p4 := S3.out.bp.cell 4 _ rfl
  have pL := S3.out.bp.lt
  have pF := S3.out.bp.fz
  clear S3
  go_upto_region 30 with fail
  clear p1 p2 p3 p4 pL pF
  generalize (((w3.setCell ⟨Z, 1, none⟩ (.int .i64 (((rcalm r).now : Nat) : Int))).setCell ⟨Z, 2, none⟩ (.slice ab bn bc)).setCell ⟨Z, 3, none⟩ (.slice fb gn gc)).setCell ⟨Z, 4, none⟩ (.slice mb nn nc) = w4 at *
  obtain ⟨f1, f2⟩ := S4.out.fin (n := n) (N0 := N) HF.out.1.calm HF.out.2.1.calm (by omega) (.pointer (some ⟨R, 0, none⟩)) (.int .i64 (((rcalm r).now : Nat) : Int)) (.slice ab bn bc) (.slice fb gn gc) (.slice mb nn nc)
  have FB := (show Hid _ from f2)
  have FS := (show Hid _ from f1)
  clear f1 f2
  have z0 := S4.out.bz.cell 0 _ rfl
  have z1 := S4.out.bz.cell 1 _ rfl
  have z2 := S4.out.bz.cell 2 _ rfl
  have z3 := S4.out.bz.cell 3 _ rfl
  have z4 := S4.out.bz.cell 4 _ rfl
  have zL := S4.out.bz.lt
  have p0 := S4.out.bp.cell 0 _ rfl
  have p1 := S4.out.bp.cell 1 _ rfl
  have p2 := S4.out.bp.cell 2 _ rfl
  have p3 := S4.out.bp.cell 3 _ rfl
  have p4 := S4.out.bp.cell 4 _ rfl
  have pL := S4.out.bp.lt
  have zF := S4.out.bz.fz
  clear S4
  go_wp2_with fail
  exact ret_blk_tmp rfl rfl (Z + 1 + 1) _ [.pointer (some ⟨R, 0, none⟩), .int .i64 (((rcalm r).now : Nat) : Int), .slice ab bn bc, .slice fb gn gc, .slice mb nn nc] _ rfl FB.out Try.underlying37 rfl (by kernel_rfl) ⟨_, _, _, _, _, _, _, _, _, _, _, _, _, _, _, _, rfl, FS.out⟩
end Go.Proofs.Ytcnhcdlbippjoaa

namespace Go.Proofs.Ytcnhcdlbippjoaa
open Go.RowKit NwM
theorem step_at {R Q n N : Nat} {S B C W M : Nat → Prop} {t : Nt} {r : RNt} {aa : Option Addr} {an ac : Nat} {fa : Option Addr} {fn fc : Nat} {ma : Option Addr} {mn mc : Nat} (o : OpN) (w : World) (h : PrA R S B C t r aa an ac fa fn fc ma mn mc w) (hb : BkA Q N W M w) (hd : ∀ g, S g ∨ B g ∨ C g → ¬ (W g ∨ M g)) (ok : Okp n t r) (hn : n ≤ 149797) (hN : N ≤ 900000000000) (hr : RdB w (.slice o.xa o.xn o.xc) o.bs) (ho : 0 < o.bs.length → ∀ g, (Value.slice o.xa o.xn o.xc).ownBlock = some g → ¬ S g ∧ g < w.heap.size) (hl : o.bs.length ≤ 1048576) :
    Calls Try.prog 11 #[.agg #[.pointer (some ⟨R, 0, none⟩), .int .i64 ((r.now : Nat) : Int), .slice aa an ac, .slice fa fn fc, .slice ma mn mc], .agg #[.int .i64 o.kind, .bool o.other, .string o.lt, .int .i64 o.id, .bool o.ack, .slice o.xa o.xn o.xc], .pointer (some ⟨Q, 0, none⟩)] w (SA R Q n N S B C W M w) := by
  by_cases k1 : o.kind = 1
  · rw [k1]; exact step_fate o w h hb hd ok hn hN
  by_cases k2 : o.kind = 2
  · rw [k2]; exact step_calm o w h hb hd ok hn hN
  by_cases k3 : o.kind = 3
  · rw [k3]; exact step_send o w h hb hd ok hn hN hr ho hl
  by_cases k4 : o.kind = 4
  · rw [k4]; exact step_tick o w h hb hd ok hn hN
  by_cases k5 : o.kind = 5
  · rw [k5]; exact step_now o w h hb hd ok hn hN
  by_cases k6 : o.kind = 6
  · rw [k6]; exact step_acc o w h hb hd ok hn hN
  by_cases k7 : o.kind = 7
  · rw [k7]; exact step_fly o w h hb hd ok hn hN
  exact step_none o o.kind w h hb hd ok hn hN (by simp [k1]) (by simp [k2]) (by simp [k3]) (by simp [k4]) (by simp [k5]) (by simp [k6]) (by simp [k7])
/-- A pair as data. -/
structure PD where
  R : Nat
  S : Nat → Prop
  B : Nat → Prop
  C : Nat → Prop
  t : Nt
  r : RNt
  aa : Option Addr
  an : Nat
  ac : Nat
  fa : Option Addr
  fn : Nat
  fc : Nat
  ma : Option Addr
  mn : Nat
  mc : Nat
def PD.T (p : PD) (g : Nat) : Prop := p.S g ∨ p.B g ∨ p.C g
abbrev PD.at (p : PD) (w : World) : Prop := PrA p.R p.S p.B p.C p.t p.r p.aa p.an p.ac p.fa p.fn p.fc p.ma p.mn p.mc w
abbrev PD.cs (p : PD) : List Value := [.pointer (some ⟨p.R, 0, none⟩), .int .i64 ((p.r.now : Nat) : Int), .slice p.aa p.an p.ac, .slice p.fa p.fn p.fc, .slice p.ma p.mn p.mc]
structure UT (w0 : World) (A D Q i : Nat) (p q : PD) (W M : Nat → Prop) (cA cD : List Value) (wr : World) : Prop where
  p1 : p.at wr
  p2 : q.at wr
  o1 : Okp i p.t p.r
  o2 : Okp i q.t q.r
  b : BkA Q (4000000 * i) W M wr
  bA : Blk A 37 cA wr
  bD : Blk D 37 cD wr
  d12 : ∀ g, p.T g → ¬ q.T g
  d1b : ∀ g, p.T g → ¬ (W g ∨ M g)
  d2b : ∀ g, q.T g → ¬ (W g ∨ M g)
  nn : ∀ g, p.T g ∨ q.T g ∨ (W g ∨ M g) → w0.heap.size ≤ g ∧ g ≠ A ∧ g ≠ D
  ad : A ≠ D ∧ w0.heap.size ≤ A ∧ w0.heap.size ≤ D
  bel : Below w0.heap.size w0 wr
theorem below_kp {w0 wr w' : World} {N : Nat → Prop} (b : Below w0.heap.size w0 wr) (k : Kp N wr w') (hN : ∀ g, N g → w0.heap.size ≤ g) : Below w0.heap.size w0 w' :=
  ⟨k.os.trans b.os, k.tape.trans b.tape, k.output.trans b.output, Nat.le_trans b.size k.size, fun g hg => (k.block g (Nat.lt_of_lt_of_le hg b.size) (fun hn => by have := hN g hn; omega)).trans (b.block g hg)⟩
section
variable {w0 : World} {A D Q i : Nat} {p q : PD} {W M : Nat → Prop} {cA cD : List Value} {wr w' : World}
theorem UT.swap (h : UT w0 A D Q i p q W M cA cD wr) : UT w0 D A Q i q p W M cD cA wr :=
  ⟨h.p2, h.p1, h.o2, h.o1, h.b, h.bD, h.bA, fun g h1 h2 => h.d12 g h2 h1, h.d2b, h.d1b, fun g hg => by
    have := h.nn g (by rcases hg with z | z | z; exact .inr (.inl z); exact .inl z; exact .inr (.inr z))
    exact ⟨this.1, this.2.2, this.2.1⟩, ⟨fun e => h.ad.1 e.symm, h.ad.2.2, h.ad.2.1⟩, h.bel⟩
theorem UT.lt (h : UT w0 A D Q i p q W M cA cD wr) : ∀ g, p.T g ∨ q.T g ∨ (W g ∨ M g) → g < wr.heap.size := fun g hg => by
  rcases hg with z | z | z
  · exact h.p1.lt g z
  · exact h.p2.lt g z
  · exact h.b.lt g z
/-- Blocks that are nobody's are written. -/
theorem UT.far (h : UT w0 A D Q i p q W M cA cD wr) {N : Nat → Prop} (k : Kp N wr w') (hN : ∀ g, N g → w0.heap.size ≤ g ∧ g ≠ A ∧ g ≠ D ∧ ¬ (p.T g ∨ q.T g ∨ (W g ∨ M g))) : UT w0 A D Q i p q W M cA cD w' := by
  have n1 : ∀ g, p.T g ∨ q.T g ∨ (W g ∨ M g) → ¬ N g := fun g hg hn => (hN g hn).2.2.2 hg
  refine ⟨h.p1.kp k (fun g hg => n1 g (.inl hg)), h.p2.kp k (fun g hg => n1 g (.inr (.inl hg))), h.o1, h.o2, h.b.kp k (fun g hg => n1 g (.inr (.inr hg))), h.bA.kp k (fun hn => (hN A hn).2.1 rfl), h.bD.kp k (fun hn => (hN D hn).2.2.1 rfl), h.d12, h.d1b, h.d2b, h.nn, h.ad, ?_⟩
  exact below_kp h.bel k (fun g hg => (hN g hg).1)
/-- A step on the first pair. -/
theorem UT.step (h : UT w0 A D Q i p q W M cA cD wr) {t : Nt} {r : RNt} {S' B' C' W' M' : Nat → Prop} {ab : Option Addr} {bn bc : Nat} {fb : Option Addr} {gn gc : Nat} {mb : Option Addr} {nn nc : Nat} (s : SP p.R Q i (4000000 * i) p.S p.B p.C W M wr t r S' B' C' W' M' ab bn bc fb gn gc mb nn nc w') :
    UT w0 A D Q (i + 1) ⟨p.R, S', B', C', t, r, ab, bn, bc, fb, gn, gc, mb, nn, nc⟩ q W' M' cA cD w' ∧ ∀ g, (S' g ∨ B' g ∨ C' g) ∨ q.T g ∨ (W' g ∨ M' g) → (p.T g ∨ q.T g ∨ (W g ∨ M g)) ∨ wr.heap.size ≤ g := by
  have n2 : ∀ g, q.T g → ¬ (p.S g ∨ W g) := fun g hg hs => by
    rcases hs with z | z
    · exact h.d12 g (.inl z) hg
    · exact h.d2b g hg (.inl z)
  have nA : ∀ g, g = A ∨ g = D → ¬ (p.S g ∨ W g) := fun g hg hs => by
    have := h.nn g (by rcases hs with z | z; exact .inl (.inl z); exact .inr (.inr (.inl z)))
    omega
  have sz := h.bel.size
  have lA := h.bA.lt
  have lD := h.bD.lt
  have gr : ∀ g, (S' g ∨ B' g ∨ C' g) ∨ q.T g ∨ (W' g ∨ M' g) → (p.T g ∨ q.T g ∨ (W g ∨ M g)) ∨ wr.heap.size ≤ g := fun g hg => by
    rcases hg with z | z | z
    · rcases s.s g z with y | y
      · exact .inl (.inl y)
      · exact .inr y
    · exact .inl (.inr (.inl z))
    · rcases s.m g z with y | y
      · exact .inl (.inr (.inr y))
      · exact .inr y
  refine ⟨⟨s.p, h.p2.kp s.k n2, s.ok, h.o2.mono (by omega), by have := s.b; rw [show 4000000 * (i + 1) = 4000000 * i + 4000000 by omega]; exact this, h.bA.kp s.k (nA _ (.inl rfl)), h.bD.kp s.k (nA _ (.inr rfl)), fun g hg hq => ?_, fun g hg => s.dj g hg, fun g hq hb => ?_, fun g hg => ?_, h.ad, ?_⟩, gr⟩
  · have hlt := h.p2.lt g hq
    rcases s.s g hg with y | y
    · exact h.d12 g y hq
    · omega
  · have hlt := h.p2.lt g hq
    rcases s.m g hb with y | y
    · exact h.d2b g hq y
    · omega
  · rcases gr g hg with y | y
    · exact h.nn g y
    · omega
  · refine below_kp h.bel s.k (fun g hg => ?_)
    exact (h.nn g (by rcases hg with z | z; exact .inl (.inl z); exact .inr (.inr (.inl z)))).1
/-- The first pair's block is written. -/
theorem UT.putA (h : UT w0 A D Q i p q W M cA cD wr) {cA' : List Value} (g : wr.grownBy w' (some A)) (hb : Blk A 37 cA' w') : UT w0 A D Q i p q W M cA' cD w' := by
  have kk : Kp (fun x => x = A) wr w' := (Kp.of_grown g).mono (fun x _ e => by injection e with e; exact e.symm)
  have n1 : ∀ g, p.T g ∨ q.T g ∨ (W g ∨ M g) → ¬ g = A := fun g hg => (h.nn g hg).2.1
  exact ⟨h.p1.kp kk (fun g hg => n1 g (.inl hg)), h.p2.kp kk (fun g hg => n1 g (.inr (.inl hg))), h.o1, h.o2, h.b.kp kk (fun g hg => n1 g (.inr (.inr hg))), hb, h.bD.kp kk (fun e => h.ad.1 e.symm), h.d12, h.d1b, h.d2b, h.nn, h.ad, below_kp h.bel kk (fun g e => by rw [e]; exact h.ad.2.1)⟩
theorem set5 {X : Nat} {cs : List Value} {w : World} (h : Blk X 37 cs w) (hl : cs.length = 5) (x0 x1 x2 x3 x4 : Value) : Blk X 37 [x0, x1, x2, x3, x4] (((((w.setCell ⟨X, 0, none⟩ x0).setCell ⟨X, 1, none⟩ x1).setCell ⟨X, 2, none⟩ x2).setCell ⟨X, 3, none⟩ x3).setCell ⟨X, 4, none⟩ x4) ∧ w.grownBy (((((w.setCell ⟨X, 0, none⟩ x0).setCell ⟨X, 1, none⟩ x1).setCell ⟨X, 2, none⟩ x2).setCell ⟨X, 3, none⟩ x3).setCell ⟨X, 4, none⟩ x4) (some X) := by
  match cs, hl with
  | [a, b, c, d, e], _ => exact ⟨((((h.set (i := 0) x0).set (i := 1) x1).set (i := 2) x2).set (i := 3) x3).set (i := 4) x4, grownBy_trans (grownBy_trans (grownBy_trans (grownBy_trans (setCell_grown w X 0 x0) (setCell_grown _ X 1 x1)) (setCell_grown _ X 2 x2)) (setCell_grown _ X 3 x3)) (setCell_grown _ X 4 x4)⟩
end
end Go.Proofs.Ytcnhcdlbippjoaa

namespace Go.Proofs.Ytcnhcdlbippjoaa
open Go.RowKit NwM
abbrev bkZ : List Value := [.slice none 0 0, .slice none 0 0, .slice none 0 0, .slice none 0 0, .slice none 0 0]
/-- An empty book. -/
theorem BkA.new {Q : Nat} {w : World} (h : Blk Q 43 bkZ w) : BkA Q 0 (fun g => g = Q) (fun _ => False) w := by
  refine ⟨⟨fun _ => .slice none 0 0, fun _ => [], ⟨h, fun k _ => RowV.nil _ _ _, rfl, fun k _ g e => by simp [Value.ownBlock] at e, fun j k _ _ _ g e => by simp [Value.ownBlock] at e, fun g e => by rw [e]; exact h.lt⟩, ⟨rfl, rfl, fun i v hv => by simp at hv, fun i v hv => by simp at hv, fun i v hv => by simp at hv, fun i v m hv => by simp at hv, fun g z => z.elim⟩, fun k _ => by simp⟩, fun g z => z.elim⟩
set_option maxRecDepth 40000 in
set_option maxHeartbeats 8000000 in
theorem upTo_at (os : List OpN) (v : Value) (lo hi : Int) (w : World) (rd : RdO w v os) (hl : 7 * os.length ≤ 1048576) (hb : ∀ o ∈ os, o.bs.length ≤ 1048576) :
    Calls Try.prog 7 #[v, .int .i64 lo, .int .i64 hi] w fun e w' => e = .returned (.bool true) ∧ Below w.heap.size w w' := by
  obtain ⟨sa, sc, rfl⟩ := rd.len
  obtain ⟨n, hn⟩ : ∃ n, os.length = n := ⟨_, rfl⟩
  have HO : Hid (RdO w (.slice sa n sc) os ∧ (∀ o ∈ os, o.bs.length ≤ 1048576) ∧ os.length = n ∧ 7 * n ≤ 1048576) := ⟨by rw [← hn]; exact rd, hb, hn, by omega⟩
  have hnn : 7 * n ≤ 1048576 := by omega
  rw [hn]
  clear rd hb hl hn
  have NE : Hid (∀ w', Calls Try.prog 8 #[] w' (NewN w')) := fun w' => new_at w'
  have BE : Hid (∀ w', Calls Try.prog 10 #[] w' fun e w2 => ∃ v', e = .returned v' ∧ RfPost (fun _ => False) w' rn0 v' w2) := fun w' => rBegin_at w'
  go_enter Try.func7, Try.ntmps7
  go_wp2_with fail
  refine (NE.out w).mono ?_
  rintro e w1 ⟨R1, S1, rfl, n1, s1, b1⟩
  go_wp2_with fail
  refine (BE.out w1).mono ?_
  rintro e w2 ⟨v2, rfl, ⟨C2, ⟨ab, bn, bc, fb, gn, gc, mb, nn, nc, rfl, rv2⟩, hc2⟩, b2⟩
  have P1 : Hid (PrA R1 S1 (fun _ => False) C2 nt0 rn0 ab bn bc fb gn gc mb nn nc w2 ∧ (∀ g, S1 g → w.heap.size ≤ g) ∧ (∀ g, C2 g → w.heap.size ≤ g) ∧ Below w.heap.size w w2) := ⟨⟨n1.below b2, rv2, Rel.begin, fun g hg hs => by
    have h1 := n1.s hs
    rcases hc2 g hg with z | z
    · exact z
    · omega⟩, s1, fun g hg => (hc2 g hg).elim (fun z => z.elim) (fun z => by have := b1.size; omega), below_trans b1 b2⟩
  clear n1 s1 b1 b2 rv2 hc2
  go_upto_region 2 with fail
  have A3 : Hid (PrA R1 S1 (fun _ => False) C2 nt0 rn0 ab bn bc fb gn gc mb nn nc (w2.alloc (.cells #[.pointer (some ⟨R1, 0, none⟩), .int .i64 ((rn0.now : Nat) : Int), .slice ab bn bc, .slice fb gn gc, .slice mb nn nc] 37)) ∧ (∀ g, S1 g ∨ False ∨ C2 g → w.heap.size ≤ g ∧ g < w2.heap.size) ∧ Below w.heap.size w (w2.alloc (.cells #[.pointer (some ⟨R1, 0, none⟩), .int .i64 ((rn0.now : Nat) : Int), .slice ab bn bc, .slice fb gn gc, .slice mb nn nc] 37)) ∧ Blk w2.heap.size 37 [.pointer (some ⟨R1, 0, none⟩), .int .i64 ((rn0.now : Nat) : Int), .slice ab bn bc, .slice fb gn gc, .slice mb nn nc] (w2.alloc (.cells #[.pointer (some ⟨R1, 0, none⟩), .int .i64 ((rn0.now : Nat) : Int), .slice ab bn bc, .slice fb gn gc, .slice mb nn nc] 37)) ∧ w.heap.size ≤ w2.heap.size) :=
    ⟨P1.out.1.kp (Kp.of_below (below_alloc _ _) (fun _ => False)) (fun _ _ z => z), fun g hg => ⟨by rcases hg with z | z | z; exact P1.out.2.1 g z; exact z.elim; exact P1.out.2.2.1 g z, P1.out.1.lt g hg⟩, below_trans P1.out.2.2.2 (below_alloc _ _), Blk.new _ _ _, P1.out.2.2.2.size⟩
  clear P1
  obtain ⟨A, hA⟩ : ∃ A, w2.heap.size = A := ⟨_, rfl⟩
  rw [hA] at A3 ⊢
  clear hA
  generalize w2.alloc (.cells #[.pointer (some ⟨R1, 0, none⟩), .int .i64 ((rn0.now : Nat) : Int), .slice ab bn bc, .slice fb gn gc, .slice mb nn nc] 37) = w3 at *
  go_wp2_with fail
  refine (NE.out w3).mono ?_
  rintro e w4 ⟨R4, S4, rfl, n4, s4, b4⟩
  go_wp2_with fail
  refine (BE.out w4).mono ?_
  rintro e w5 ⟨v5, rfl, ⟨C5, ⟨ib, jn, jc, kb, ln, lc, mb', on, oc, rfl, rv5⟩, hc5⟩, b5⟩
  have A5 : Hid (PrA R1 S1 (fun _ => False) C2 nt0 rn0 ab bn bc fb gn gc mb nn nc w5 ∧ (∀ g, S1 g ∨ False ∨ C2 g → w.heap.size ≤ g ∧ g < A) ∧ Below w.heap.size w w5 ∧ Blk A 37 [.pointer (some ⟨R1, 0, none⟩), .int .i64 ((rn0.now : Nat) : Int), .slice ab bn bc, .slice fb gn gc, .slice mb nn nc] w5 ∧ w.heap.size ≤ A ∧
      PrA R4 S4 (fun _ => False) C5 nt0 rn0 ib jn jc kb ln lc mb' on oc w5 ∧ ∀ g, S4 g ∨ False ∨ C5 g → A < g) := by
    have b45 := below_trans b4 b5
    have lA := A3.out.2.2.2.1.lt
    refine ⟨A3.out.1.kp (Kp.of_below b45 (fun _ => False)) (fun _ _ z => z), A3.out.2.1, below_trans A3.out.2.2.1 b45, A3.out.2.2.2.1.below b45, A3.out.2.2.2.2, ⟨n4.below b5, rv5, Rel.begin, fun g hg hs => ?_⟩, fun g hg => ?_⟩
    · have h1 := n4.s hs
      rcases hc5 g hg with z | z
      · exact z
      · omega
    · rcases hg with z | z | z
      · have := s4 g z; omega
      · exact z.elim
      · rcases hc5 g z with y | y
        · exact y.elim
        · have := b4.size; omega
  clear n4 s4 b4 b5 rv5 hc5 A3 NE BE
  go_upto_region 3 with fail
  have A6 : Hid (PrA R1 S1 (fun _ => False) C2 nt0 rn0 ab bn bc fb gn gc mb nn nc (w5.alloc (.cells #[.pointer (some ⟨R4, 0, none⟩), .int .i64 ((rn0.now : Nat) : Int), .slice ib jn jc, .slice kb ln lc, .slice mb' on oc] 37)) ∧ Blk A 37 [.pointer (some ⟨R1, 0, none⟩), .int .i64 ((rn0.now : Nat) : Int), .slice ab bn bc, .slice fb gn gc, .slice mb nn nc] (w5.alloc (.cells #[.pointer (some ⟨R4, 0, none⟩), .int .i64 ((rn0.now : Nat) : Int), .slice ib jn jc, .slice kb ln lc, .slice mb' on oc] 37)) ∧ PrA R4 S4 (fun _ => False) C5 nt0 rn0 ib jn jc kb ln lc mb' on oc (w5.alloc (.cells #[.pointer (some ⟨R4, 0, none⟩), .int .i64 ((rn0.now : Nat) : Int), .slice ib jn jc, .slice kb ln lc, .slice mb' on oc] 37)) ∧ Blk w5.heap.size 37 [.pointer (some ⟨R4, 0, none⟩), .int .i64 ((rn0.now : Nat) : Int), .slice ib jn jc, .slice kb ln lc, .slice mb' on oc] (w5.alloc (.cells #[.pointer (some ⟨R4, 0, none⟩), .int .i64 ((rn0.now : Nat) : Int), .slice ib jn jc, .slice kb ln lc, .slice mb' on oc] 37)) ∧ Below w.heap.size w (w5.alloc (.cells #[.pointer (some ⟨R4, 0, none⟩), .int .i64 ((rn0.now : Nat) : Int), .slice ib jn jc, .slice kb ln lc, .slice mb' on oc] 37)) ∧
      (∀ g, S1 g ∨ False ∨ C2 g → w.heap.size ≤ g ∧ g < A) ∧ (∀ g, S4 g ∨ False ∨ C5 g → A < g ∧ g < w5.heap.size) ∧ w.heap.size ≤ A ∧ A < w5.heap.size) :=
    ⟨A5.out.1.kp (Kp.of_below (below_alloc _ _) (fun _ => False)) (fun _ _ z => z), A5.out.2.2.2.1.below (below_alloc _ _), A5.out.2.2.2.2.2.1.kp (Kp.of_below (below_alloc _ _) (fun _ => False)) (fun _ _ z => z), Blk.new _ _ _, below_trans A5.out.2.2.1 (below_alloc _ _), A5.out.2.1, fun g hg => ⟨A5.out.2.2.2.2.2.2 g hg, A5.out.2.2.2.2.2.1.lt g hg⟩, A5.out.2.2.2.2.1, A5.out.2.2.2.1.lt⟩
  clear A5
  obtain ⟨D, hD⟩ : ∃ D, w5.heap.size = D := ⟨_, rfl⟩
  rw [hD] at A6 ⊢
  clear hD
  generalize w5.alloc (.cells #[.pointer (some ⟨R4, 0, none⟩), .int .i64 ((rn0.now : Nat) : Int), .slice ib jn jc, .slice kb ln lc, .slice mb' on oc] 37) = w6 at *
  have a0 := A6.out.2.1.cell 0 _ rfl
  have aL := A6.out.2.1.lt
  have d0 := A6.out.2.2.2.1.cell 0 _ rfl
  have dL := A6.out.2.2.2.1.lt
  go_upto_region 6 with fail
  clear a0 aL d0 dL
  have U0 : Hid (UT w A D w6.heap.size 0 ⟨R1, S1, fun _ => False, C2, nt0, rn0, ab, bn, bc, fb, gn, gc, mb, nn, nc⟩ ⟨R4, S4, fun _ => False, C5, nt0, rn0, ib, jn, jc, kb, ln, lc, mb', on, oc⟩ (fun g => g = w6.heap.size) (fun _ => False) [.pointer (some ⟨R1, 0, none⟩), .int .i64 ((rn0.now : Nat) : Int), .slice ab bn bc, .slice fb gn gc, .slice mb nn nc] [.pointer (some ⟨R4, 0, none⟩), .int .i64 ((rn0.now : Nat) : Int), .slice ib jn jc, .slice kb ln lc, .slice mb' on oc] (w6.alloc (.cells #[.slice none 0 0, .slice none 0 0, .slice none 0 0, .slice none 0 0, .slice none 0 0] 43))) := by
    have b7 := below_alloc w6 (.cells #[.slice none 0 0, .slice none 0 0, .slice none 0 0, .slice none 0 0, .slice none 0 0] 43)
    have k7 := Kp.of_below b7 (fun _ => False)
    obtain ⟨q1, q2, q3, q4, q5, q6, q7, q8, q9⟩ := A6.out
    have lA := q2.lt
    have lD := q4.lt
    have sz := q5.size
    refine ⟨q1.kp k7 (fun _ _ z => z), q3.kp k7 (fun _ _ z => z), Okp.begin, Okp.begin, BkA.new (Blk.new _ _ _), q2.below b7, q4.below b7, fun g h1 h2 => ?_, fun g h1 h2 => ?_, fun g h1 h2 => ?_, fun g hg => ?_, ⟨by omega, q8, by omega⟩, below_trans q5 b7⟩
    · have := q6 g h1; have := q7 g h2; omega
    · have := q6 g h1
      rcases h2 with z | z
      · omega
      · exact z.elim
    · have := q7 g h1
      rcases h2 with z | z
      · omega
      · exact z.elim
    · rcases hg with z | z | z | z
      · have := q6 g z; omega
      · have := q7 g z; omega
      · omega
      · exact z.elim
  clear A6
  obtain ⟨Q, hQ⟩ : ∃ Q, w6.heap.size = Q := ⟨_, rfl⟩
  rw [hQ] at U0 ⊢
  clear hQ
  generalize w6.alloc (.cells #[.slice none 0 0, .slice none 0 0, .slice none 0 0, .slice none 0 0, .slice none 0 0] 43) = w7 at *
  go_wp2_with fail
  go_loopw [10, 11, 12, 13] (fun vi _ _ _ wr => ∃ i : Nat, vi = .int .i64 (i : Int) ∧ i ≤ n ∧ Hid (∃ p q W M, UT w A D Q i p q W M p.cs q.cs wr)) (fun vi _ _ _ _ => n - (intOf vi).toNat)
  case atStart => exact ⟨0, rfl, by omega, ⟨_, _, _, _, U0.out⟩⟩
  case round =>
    clear U0
    obtain ⟨i, rfl, hi, HU⟩ := hrel
    by_cases hlt : (i : Int) < (n : Int)
    · obtain ⟨p, q, W, M, ut⟩ := HU.out
      obtain ⟨o, ho⟩ : ∃ o, os[i]? = some o := ⟨os[i]'(by rw [HO.out.2.2.1]; omega), List.getElem?_eq_getElem _⟩
      obtain ⟨g, off, es, lg, x0, x1, x2, x3, x4, x5, xr⟩ := HO.out.1.at ut.bel ho
      subst es
      have HB : Hid (o.bs.length ≤ 1048576 ∧ RdB wr (.slice o.xa o.xn o.xc) o.bs ∧ (0 < o.bs.length → ∀ g, (Value.slice o.xa o.xn o.xc).ownBlock = some g → g < w.heap.size)) := ⟨HO.out.2.1 o (List.mem_of_getElem? ho), xr, fun h0 g' e => by
        obtain ⟨ao, cap, ea, hc⟩ := HO.out.1
        obtain ⟨_, _, _, _, _, rd0⟩ := hc i o ho
        obtain ⟨b1, b2, b3, -, -, b6⟩ := rd0
        obtain ⟨g2, o2, e2, lt2, _⟩ := b6 0 (by rw [List.length_map]; exact h0)
        injection b3 with b3 _ _
        rw [b3, e2] at e
        have : g2 = g' := by simpa [Value.ownBlock] using e
        rw [← this]; exact lt2⟩
      have HUT : Hid (UT w A D Q i p q W M p.cs q.cs wr) := ut
      have hA0 := ut.bA.cell 0 _ rfl
      have hA1 := ut.bA.cell 1 _ rfl
      have hA2 := ut.bA.cell 2 _ rfl
      have hA3 := ut.bA.cell 3 _ rfl
      have hA4 := ut.bA.cell 4 _ rfl
      have hAL := ut.bA.lt
      clear ho xr HU ut
      go_upto_region 11 with fail
      have UB : Hid (UT w A D Q i p q W M p.cs q.cs ((wr.alloc (.cells #[.int .i64 o.kind, .bool o.other, .string o.lt, .int .i64 o.id, .bool o.ack, .slice o.xa o.xn o.xc] 45)).alloc (.cells #[.pointer (some ⟨p.R, 0, none⟩), .int .i64 ((p.r.now : Nat) : Int), .slice p.aa p.an p.ac, .slice p.fa p.fn p.fc, .slice p.ma p.mn p.mc] 37)) ∧ Blk wr.heap.size 45 [.int .i64 o.kind, .bool o.other, .string o.lt, .int .i64 o.id, .bool o.ack, .slice o.xa o.xn o.xc] ((wr.alloc (.cells #[.int .i64 o.kind, .bool o.other, .string o.lt, .int .i64 o.id, .bool o.ack, .slice o.xa o.xn o.xc] 45)).alloc (.cells #[.pointer (some ⟨p.R, 0, none⟩), .int .i64 ((p.r.now : Nat) : Int), .slice p.aa p.an p.ac, .slice p.fa p.fn p.fc, .slice p.ma p.mn p.mc] 37)) ∧ Blk (wr.heap.size + 1) 37 [.pointer (some ⟨p.R, 0, none⟩), .int .i64 ((p.r.now : Nat) : Int), .slice p.aa p.an p.ac, .slice p.fa p.fn p.fc, .slice p.ma p.mn p.mc] ((wr.alloc (.cells #[.int .i64 o.kind, .bool o.other, .string o.lt, .int .i64 o.id, .bool o.ack, .slice o.xa o.xn o.xc] 45)).alloc (.cells #[.pointer (some ⟨p.R, 0, none⟩), .int .i64 ((p.r.now : Nat) : Int), .slice p.aa p.an p.ac, .slice p.fa p.fn p.fc, .slice p.ma p.mn p.mc] 37)) ∧ RdB ((wr.alloc (.cells #[.int .i64 o.kind, .bool o.other, .string o.lt, .int .i64 o.id, .bool o.ack, .slice o.xa o.xn o.xc] 45)).alloc (.cells #[.pointer (some ⟨p.R, 0, none⟩), .int .i64 ((p.r.now : Nat) : Int), .slice p.aa p.an p.ac, .slice p.fa p.fn p.fc, .slice p.ma p.mn p.mc] 37)) (.slice o.xa o.xn o.xc) o.bs ∧ w.heap.size ≤ wr.heap.size ∧ A < wr.heap.size ∧ D < wr.heap.size ∧ ∀ g, p.T g ∨ q.T g ∨ (W g ∨ M g) → g < wr.heap.size) := by
        have b2 := below_trans (below_alloc wr (.cells #[.int .i64 o.kind, .bool o.other, .string o.lt, .int .i64 o.id, .bool o.ack, .slice o.xa o.xn o.xc] 45)) (below_alloc _ (.cells #[.pointer (some ⟨p.R, 0, none⟩), .int .i64 ((p.r.now : Nat) : Int), .slice p.aa p.an p.ac, .slice p.fa p.fn p.fc, .slice p.ma p.mn p.mc] 37))
        exact ⟨HUT.out.far (Kp.of_below b2 (fun _ => False)) (fun g z => z.elim), (Blk.new _ _ _).old _, Blk.new2 _ _ _ _, Rd.later HB.out.2.1 b2, HUT.out.bel.size, HUT.out.bA.lt, HUT.out.bD.lt, HUT.out.lt⟩
      clear HUT x0 x1 x2 x3 x4 x5 lg
      obtain ⟨X, hX⟩ : ∃ X, wr.heap.size = X := ⟨_, rfl⟩
      rw [hX] at UB ⊢
      clear hX
      generalize (wr.alloc (.cells #[.int .i64 o.kind, .bool o.other, .string o.lt, .int .i64 o.id, .bool o.ack, .slice o.xa o.xn o.xc] 45)).alloc (.cells #[.pointer (some ⟨p.R, 0, none⟩), .int .i64 ((p.r.now : Nat) : Int), .slice p.aa p.an p.ac, .slice p.fa p.fn p.fc, .slice p.ma p.mn p.mc] 37) = wB at *
      have o1 := UB.out.2.1.cell 1 _ rfl
      have oL := UB.out.2.1.lt
      obtain ⟨oth, hoth⟩ : ∃ b, o.other = b := ⟨_, rfl⟩
      rw [hoth] at o1 UB ⊢
      clear hoth
      cases oth with
      | false =>
        have UC : Hid (UT w A D Q i p q W M p.cs q.cs wB ∧ Blk X 45 [.int .i64 o.kind, .bool false, .string o.lt, .int .i64 o.id, .bool o.ack, .slice o.xa o.xn o.xc] wB ∧ Blk (X + 1) 37 [.pointer (some ⟨p.R, 0, none⟩), .int .i64 ((p.r.now : Nat) : Int), .slice p.aa p.an p.ac, .slice p.fa p.fn p.fc, .slice p.ma p.mn p.mc] wB ∧ RdB wB (.slice o.xa o.xn o.xc) o.bs ∧ X + 1 < wB.heap.size) := ⟨UB.out.1, UB.out.2.1, UB.out.2.2.1, UB.out.2.2.2.1, UB.out.2.2.1.lt⟩
        have HS : Hid (w.heap.size ≤ X ∧ A < X ∧ D < X ∧ (∀ g, p.T g ∨ q.T g ∨ (W g ∨ M g) → g < X)) := UB.out.2.2.2.2
        clear UB hA0 hA1 hA2 hA3 hA4 hAL
        have e0 := UC.out.2.1.cell 0 _ rfl
        have e1 := UC.out.2.1.cell 1 _ rfl
        have e2 := UC.out.2.1.cell 2 _ rfl
        have e3 := UC.out.2.1.cell 3 _ rfl
        have e4 := UC.out.2.1.cell 4 _ rfl
        have e5 := UC.out.2.1.cell 5 _ rfl
        have eL := UC.out.2.1.lt
        have f0 := UC.out.2.2.1.cell 0 _ rfl
        have f1 := UC.out.2.2.1.cell 1 _ rfl
        have f2 := UC.out.2.2.1.cell 2 _ rfl
        have f3 := UC.out.2.2.1.cell 3 _ rfl
        have f4 := UC.out.2.2.1.cell 4 _ rfl
        have fL := UC.out.2.2.1.lt
        have SS : Hid (Calls Try.prog 11 #[.agg #[.pointer (some ⟨p.R, 0, none⟩), .int .i64 ((p.r.now : Nat) : Int), .slice p.aa p.an p.ac, .slice p.fa p.fn p.fc, .slice p.ma p.mn p.mc], .agg #[.int .i64 o.kind, .bool false, .string o.lt, .int .i64 o.id, .bool o.ack, .slice o.xa o.xn o.xc], .pointer (some ⟨Q, 0, none⟩)] wB (SA p.R Q i (4000000 * i) p.S p.B p.C W M wB)) :=
          step_at (⟨o.kind, false, o.lt, o.id, o.ack, o.xa, o.xn, o.xc, o.bs⟩ : OpN) wB UC.out.1.p1 UC.out.1.b UC.out.1.d1b UC.out.1.o1 (by omega) (by omega) UC.out.2.2.2.1 (fun h0 g' e => by
            have h1 := HB.out.2.2 h0 g' e
            refine ⟨fun hs => ?_, by have := HS.out.1; have := UC.out.2.2.2.2; omega⟩
            have := (UC.out.1.nn g' (.inl (.inl hs))).1
            omega) HB.out.1
        go_wp2_with fail
        refine SS.out.mono ?_
        rintro e wC ⟨t', r', S', B', C', W', M', ab', bn', bc', fb', gn', gc', mb2, nn', nc', rfl, sp⟩
        clear e0 e1 e2 e3 e4 e5 eL f0 f1 f2 f3 f4 fL
        obtain ⟨u1, u2⟩ := UC.out.1.step sp
        obtain ⟨pn, hpn⟩ : ∃ pn : PD, pn = ⟨p.R, S', B', C', t', r', ab', bn', bc', fb', gn', gc', mb2, nn', nc'⟩ := ⟨_, rfl⟩
        rw [← hpn] at u1
        have HPN : Hid (pn.cs = [.pointer (some ⟨p.R, 0, none⟩), .int .i64 ((r'.now : Nat) : Int), .slice ab' bn' bc', .slice fb' gn' gc', .slice mb2 nn' nc']) := by show _ = _; rw [hpn]
        have szB := sp.k.size
        have nX : ∀ g, g = X ∨ g = X + 1 → ¬ (pn.T g ∨ q.T g ∨ (W' g ∨ M' g)) := fun g hg hh => by
          have h1 := u2 g (by rcases hh with z | z | z; exact .inl (by rw [hpn] at z; exact z); exact .inr (.inl z); exact .inr (.inr z))
          have h2 := HS.out.2.2.2 g
          have h3 := UC.out.2.2.2.2
          rcases h1 with y | y
          · have := h2 (by rcases y with z | z | z; exact .inl z; exact .inr (.inl z); exact .inr (.inr z))
            omega
          · omega
        have nK : ∀ g, g = X ∨ g = X + 1 → ¬ (p.S g ∨ W g) := fun g hg hh => by
          have := HS.out.2.2.2 g (by rcases hh with z | z; exact .inl (.inl z); exact .inr (.inr (.inl z)))
          omega
        have bX := UC.out.2.2.1.kp sp.k (nK _ (.inr rfl))
        have bO := UC.out.2.1.kp sp.k (nK _ (.inl rfl))
        obtain ⟨s1, s2⟩ := set5 bX rfl (.pointer (some ⟨p.R, 0, none⟩)) (.int .i64 ((r'.now : Nat) : Int)) (.slice ab' bn' bc') (.slice fb' gn' gc') (.slice mb2 nn' nc')
        have k2 : Kp (fun g => g = X + 1) wC (((((wC.setCell ⟨X + 1, 0, none⟩ (.pointer (some ⟨p.R, 0, none⟩))).setCell ⟨X + 1, 1, none⟩ (.int .i64 ((r'.now : Nat) : Int))).setCell ⟨X + 1, 2, none⟩ (.slice ab' bn' bc')).setCell ⟨X + 1, 3, none⟩ (.slice fb' gn' gc')).setCell ⟨X + 1, 4, none⟩ (.slice mb2 nn' nc')) := (Kp.of_grown s2).mono (fun q _ e => by injection e with e; exact e.symm)
        have UD : Hid (UT w A D Q (i + 1) pn q W' M' p.cs q.cs (((((wC.setCell ⟨X + 1, 0, none⟩ (.pointer (some ⟨p.R, 0, none⟩))).setCell ⟨X + 1, 1, none⟩ (.int .i64 ((r'.now : Nat) : Int))).setCell ⟨X + 1, 2, none⟩ (.slice ab' bn' bc')).setCell ⟨X + 1, 3, none⟩ (.slice fb' gn' gc')).setCell ⟨X + 1, 4, none⟩ (.slice mb2 nn' nc')) ∧ Blk X 45 [.int .i64 o.kind, .bool false, .string o.lt, .int .i64 o.id, .bool o.ack, .slice o.xa o.xn o.xc] (((((wC.setCell ⟨X + 1, 0, none⟩ (.pointer (some ⟨p.R, 0, none⟩))).setCell ⟨X + 1, 1, none⟩ (.int .i64 ((r'.now : Nat) : Int))).setCell ⟨X + 1, 2, none⟩ (.slice ab' bn' bc')).setCell ⟨X + 1, 3, none⟩ (.slice fb' gn' gc')).setCell ⟨X + 1, 4, none⟩ (.slice mb2 nn' nc')) ∧ Blk (X + 1) 37 [.pointer (some ⟨p.R, 0, none⟩), .int .i64 ((r'.now : Nat) : Int), .slice ab' bn' bc', .slice fb' gn' gc', .slice mb2 nn' nc'] (((((wC.setCell ⟨X + 1, 0, none⟩ (.pointer (some ⟨p.R, 0, none⟩))).setCell ⟨X + 1, 1, none⟩ (.int .i64 ((r'.now : Nat) : Int))).setCell ⟨X + 1, 2, none⟩ (.slice ab' bn' bc')).setCell ⟨X + 1, 3, none⟩ (.slice fb' gn' gc')).setCell ⟨X + 1, 4, none⟩ (.slice mb2 nn' nc'))) := ⟨u1.far k2 (fun g e => by subst e; exact ⟨by have := HS.out; omega, by have := HS.out; omega, by have := HS.out; omega, nX _ (.inr rfl)⟩), bO.kp k2 (fun e => by omega), s1⟩
        have y0 := bX.cell 0 _ rfl
        have y1 := bX.cell 1 _ rfl
        have y2 := bX.cell 2 _ rfl
        have y3 := bX.cell 3 _ rfl
        have y4 := bX.cell 4 _ rfl
        have yF := bX.fz
        have yL := bX.lt
        clear SS sp u1 u2 bX bO s1 s2 k2 UC hpn nX nK szB
        go_upto_region 16 with fail
        clear y0 y1 y2 y3 y4 yF yL
        generalize (((((wC.setCell ⟨X + 1, 0, none⟩ (.pointer (some ⟨p.R, 0, none⟩))).setCell ⟨X + 1, 1, none⟩ (.int .i64 ((r'.now : Nat) : Int))).setCell ⟨X + 1, 2, none⟩ (.slice ab' bn' bc')).setCell ⟨X + 1, 3, none⟩ (.slice fb' gn' gc')).setCell ⟨X + 1, 4, none⟩ (.slice mb2 nn' nc')) = wD at *
        have e1 := UD.out.2.1.cell 1 _ rfl
        have eL := UD.out.2.1.lt
        have f0 := UD.out.2.2.cell 0 _ rfl
        have f1 := UD.out.2.2.cell 1 _ rfl
        have f2 := UD.out.2.2.cell 2 _ rfl
        have f3 := UD.out.2.2.cell 3 _ rfl
        have f4 := UD.out.2.2.cell 4 _ rfl
        have fL := UD.out.2.2.lt
        have z0 := UD.out.1.bA.cell 0 _ rfl
        have z1 := UD.out.1.bA.cell 1 _ rfl
        have z2 := UD.out.1.bA.cell 2 _ rfl
        have z3 := UD.out.1.bA.cell 3 _ rfl
        have z4 := UD.out.1.bA.cell 4 _ rfl
        have zF := UD.out.1.bA.fz
        have zL := UD.out.1.bA.lt
        obtain ⟨s1, s2⟩ := set5 UD.out.1.bA rfl (.pointer (some ⟨p.R, 0, none⟩)) (.int .i64 ((r'.now : Nat) : Int)) (.slice ab' bn' bc') (.slice fb' gn' gc') (.slice mb2 nn' nc')
        have UE : Hid (UT w A D Q (i + 1) pn q W' M' pn.cs q.cs (((((wD.setCell ⟨A, 0, none⟩ (.pointer (some ⟨p.R, 0, none⟩))).setCell ⟨A, 1, none⟩ (.int .i64 ((r'.now : Nat) : Int))).setCell ⟨A, 2, none⟩ (.slice ab' bn' bc')).setCell ⟨A, 3, none⟩ (.slice fb' gn' gc')).setCell ⟨A, 4, none⟩ (.slice mb2 nn' nc'))) := by
          have := UD.out.1.putA s2 s1
          rw [← HPN.out] at this
          exact this
        have neX : X + 1 ≠ A := by have := HS.out; omega
        clear s1 s2 UD
        go_wp2_with fail
        go_roundw
        case rel => exact ⟨i + 1, by go_num, by omega, ⟨pn, q, W', M', UE.out⟩⟩
        case measure => simp [intOf] <;> omega
      | true =>
        have hD0 := UB.out.1.bD.cell 0 _ rfl
        have hD1 := UB.out.1.bD.cell 1 _ rfl
        have hD2 := UB.out.1.bD.cell 2 _ rfl
        have hD3 := UB.out.1.bD.cell 3 _ rfl
        have hD4 := UB.out.1.bD.cell 4 _ rfl
        have hDL := UB.out.1.bD.lt
        have hX0 := UB.out.2.2.1.cell 0 _ rfl
        have hX1 := UB.out.2.2.1.cell 1 _ rfl
        have hX2 := UB.out.2.2.1.cell 2 _ rfl
        have hX3 := UB.out.2.2.1.cell 3 _ rfl
        have hX4 := UB.out.2.2.1.cell 4 _ rfl
        have hXF := UB.out.2.2.1.fz
        have hXL := UB.out.2.2.1.lt
        have UC : Hid (UT w D A Q i q p W M q.cs p.cs (((((wB.setCell ⟨X + 1, 0, none⟩ (.pointer (some ⟨q.R, 0, none⟩))).setCell ⟨X + 1, 1, none⟩ (.int .i64 ((q.r.now : Nat) : Int))).setCell ⟨X + 1, 2, none⟩ (.slice q.aa q.an q.ac)).setCell ⟨X + 1, 3, none⟩ (.slice q.fa q.fn q.fc)).setCell ⟨X + 1, 4, none⟩ (.slice q.ma q.mn q.mc)) ∧ Blk X 45 [.int .i64 o.kind, .bool true, .string o.lt, .int .i64 o.id, .bool o.ack, .slice o.xa o.xn o.xc] (((((wB.setCell ⟨X + 1, 0, none⟩ (.pointer (some ⟨q.R, 0, none⟩))).setCell ⟨X + 1, 1, none⟩ (.int .i64 ((q.r.now : Nat) : Int))).setCell ⟨X + 1, 2, none⟩ (.slice q.aa q.an q.ac)).setCell ⟨X + 1, 3, none⟩ (.slice q.fa q.fn q.fc)).setCell ⟨X + 1, 4, none⟩ (.slice q.ma q.mn q.mc)) ∧ Blk (X + 1) 37 [.pointer (some ⟨q.R, 0, none⟩), .int .i64 ((q.r.now : Nat) : Int), .slice q.aa q.an q.ac, .slice q.fa q.fn q.fc, .slice q.ma q.mn q.mc] (((((wB.setCell ⟨X + 1, 0, none⟩ (.pointer (some ⟨q.R, 0, none⟩))).setCell ⟨X + 1, 1, none⟩ (.int .i64 ((q.r.now : Nat) : Int))).setCell ⟨X + 1, 2, none⟩ (.slice q.aa q.an q.ac)).setCell ⟨X + 1, 3, none⟩ (.slice q.fa q.fn q.fc)).setCell ⟨X + 1, 4, none⟩ (.slice q.ma q.mn q.mc)) ∧ RdB (((((wB.setCell ⟨X + 1, 0, none⟩ (.pointer (some ⟨q.R, 0, none⟩))).setCell ⟨X + 1, 1, none⟩ (.int .i64 ((q.r.now : Nat) : Int))).setCell ⟨X + 1, 2, none⟩ (.slice q.aa q.an q.ac)).setCell ⟨X + 1, 3, none⟩ (.slice q.fa q.fn q.fc)).setCell ⟨X + 1, 4, none⟩ (.slice q.ma q.mn q.mc)) (.slice o.xa o.xn o.xc) o.bs ∧ X + 1 < (((((wB.setCell ⟨X + 1, 0, none⟩ (.pointer (some ⟨q.R, 0, none⟩))).setCell ⟨X + 1, 1, none⟩ (.int .i64 ((q.r.now : Nat) : Int))).setCell ⟨X + 1, 2, none⟩ (.slice q.aa q.an q.ac)).setCell ⟨X + 1, 3, none⟩ (.slice q.fa q.fn q.fc)).setCell ⟨X + 1, 4, none⟩ (.slice q.ma q.mn q.mc)).heap.size) := by
          obtain ⟨s1, s2⟩ := set5 UB.out.2.2.1 rfl (.pointer (some ⟨q.R, 0, none⟩)) (.int .i64 ((q.r.now : Nat) : Int)) (.slice q.aa q.an q.ac) (.slice q.fa q.fn q.fc) (.slice q.ma q.mn q.mc)
          have k2 : Kp (fun g => g = X + 1) wB (((((wB.setCell ⟨X + 1, 0, none⟩ (.pointer (some ⟨q.R, 0, none⟩))).setCell ⟨X + 1, 1, none⟩ (.int .i64 ((q.r.now : Nat) : Int))).setCell ⟨X + 1, 2, none⟩ (.slice q.aa q.an q.ac)).setCell ⟨X + 1, 3, none⟩ (.slice q.fa q.fn q.fc)).setCell ⟨X + 1, 4, none⟩ (.slice q.ma q.mn q.mc)) := (Kp.of_grown s2).mono (fun q _ e => by injection e with e; exact e.symm)
          have hs := UB.out.2.2.2
          refine ⟨(UB.out.1.far k2 (fun g e => by subst e; exact ⟨by omega, by omega, by omega, fun hh => by have := hs.2.2.2.2 _ hh; omega⟩)).swap, UB.out.2.1.kp k2 (fun e => by omega), s1, Rd.kpn hs.1 k2 (fun h0 g' e z => by have := HB.out.2.2 (by simpa using h0) g' e; have := hs.2.1; omega), s1.lt⟩
        clear hA0 hA1 hA2 hA3 hA4 hAL
        have e1 := UB.out.2.1.cell 1 _ rfl
        have eL := UB.out.2.1.lt
        go_upto_region 13 with fail
        clear hD0 hD1 hD2 hD3 hD4 hDL hX0 hX1 hX2 hX3 hX4 hXF hXL e1 eL
        have HS : Hid (w.heap.size ≤ X ∧ A < X ∧ D < X ∧ (∀ g, p.T g ∨ q.T g ∨ (W g ∨ M g) → g < X)) := UB.out.2.2.2.2
        clear UB
        generalize (((((wB.setCell ⟨X + 1, 0, none⟩ (.pointer (some ⟨q.R, 0, none⟩))).setCell ⟨X + 1, 1, none⟩ (.int .i64 ((q.r.now : Nat) : Int))).setCell ⟨X + 1, 2, none⟩ (.slice q.aa q.an q.ac)).setCell ⟨X + 1, 3, none⟩ (.slice q.fa q.fn q.fc)).setCell ⟨X + 1, 4, none⟩ (.slice q.ma q.mn q.mc)) = wB at *
        have e0 := UC.out.2.1.cell 0 _ rfl
        have e1 := UC.out.2.1.cell 1 _ rfl
        have e2 := UC.out.2.1.cell 2 _ rfl
        have e3 := UC.out.2.1.cell 3 _ rfl
        have e4 := UC.out.2.1.cell 4 _ rfl
        have e5 := UC.out.2.1.cell 5 _ rfl
        have eL := UC.out.2.1.lt
        have f0 := UC.out.2.2.1.cell 0 _ rfl
        have f1 := UC.out.2.2.1.cell 1 _ rfl
        have f2 := UC.out.2.2.1.cell 2 _ rfl
        have f3 := UC.out.2.2.1.cell 3 _ rfl
        have f4 := UC.out.2.2.1.cell 4 _ rfl
        have fL := UC.out.2.2.1.lt
        have SS : Hid (Calls Try.prog 11 #[.agg #[.pointer (some ⟨q.R, 0, none⟩), .int .i64 ((q.r.now : Nat) : Int), .slice q.aa q.an q.ac, .slice q.fa q.fn q.fc, .slice q.ma q.mn q.mc], .agg #[.int .i64 o.kind, .bool true, .string o.lt, .int .i64 o.id, .bool o.ack, .slice o.xa o.xn o.xc], .pointer (some ⟨Q, 0, none⟩)] wB (SA q.R Q i (4000000 * i) q.S q.B q.C W M wB)) :=
          step_at (⟨o.kind, true, o.lt, o.id, o.ack, o.xa, o.xn, o.xc, o.bs⟩ : OpN) wB UC.out.1.p1 UC.out.1.b UC.out.1.d1b UC.out.1.o1 (by omega) (by omega) UC.out.2.2.2.1 (fun h0 g' e => by
            have h1 := HB.out.2.2 h0 g' e
            refine ⟨fun hs => ?_, by have := HS.out.1; have := UC.out.2.2.2.2; omega⟩
            have := (UC.out.1.nn g' (.inl (.inl hs))).1
            omega) HB.out.1
        go_wp2_with fail
        refine SS.out.mono ?_
        rintro e wC ⟨t', r', S', B', C', W', M', ab', bn', bc', fb', gn', gc', mb2, nn', nc', rfl, sp⟩
        clear e0 e1 e2 e3 e4 e5 eL f0 f1 f2 f3 f4 fL
        obtain ⟨u1, u2⟩ := UC.out.1.step sp
        obtain ⟨pn, hpn⟩ : ∃ pn : PD, pn = ⟨q.R, S', B', C', t', r', ab', bn', bc', fb', gn', gc', mb2, nn', nc'⟩ := ⟨_, rfl⟩
        rw [← hpn] at u1
        have HPN : Hid (pn.cs = [.pointer (some ⟨q.R, 0, none⟩), .int .i64 ((r'.now : Nat) : Int), .slice ab' bn' bc', .slice fb' gn' gc', .slice mb2 nn' nc']) := by show _ = _; rw [hpn]
        have szB := sp.k.size
        have nX : ∀ g, g = X ∨ g = X + 1 → ¬ (pn.T g ∨ p.T g ∨ (W' g ∨ M' g)) := fun g hg hh => by
          have h1 := u2 g (by rcases hh with z | z | z; exact .inl (by rw [hpn] at z; exact z); exact .inr (.inl z); exact .inr (.inr z))
          have h2 := HS.out.2.2.2 g
          have h3 := UC.out.2.2.2.2
          rcases h1 with y | y
          · have := h2 (by rcases y with z | z | z; exact .inr (.inl z); exact .inl z; exact .inr (.inr z))
            omega
          · omega
        have nK : ∀ g, g = X ∨ g = X + 1 → ¬ (q.S g ∨ W g) := fun g hg hh => by
          have := HS.out.2.2.2 g (by rcases hh with z | z; exact .inr (.inl (.inl z)); exact .inr (.inr (.inl z)))
          omega
        have bX := UC.out.2.2.1.kp sp.k (nK _ (.inr rfl))
        have bO := UC.out.2.1.kp sp.k (nK _ (.inl rfl))
        obtain ⟨s1, s2⟩ := set5 bX rfl (.pointer (some ⟨q.R, 0, none⟩)) (.int .i64 ((r'.now : Nat) : Int)) (.slice ab' bn' bc') (.slice fb' gn' gc') (.slice mb2 nn' nc')
        have k2 : Kp (fun g => g = X + 1) wC (((((wC.setCell ⟨X + 1, 0, none⟩ (.pointer (some ⟨q.R, 0, none⟩))).setCell ⟨X + 1, 1, none⟩ (.int .i64 ((r'.now : Nat) : Int))).setCell ⟨X + 1, 2, none⟩ (.slice ab' bn' bc')).setCell ⟨X + 1, 3, none⟩ (.slice fb' gn' gc')).setCell ⟨X + 1, 4, none⟩ (.slice mb2 nn' nc')) := (Kp.of_grown s2).mono (fun q _ e => by injection e with e; exact e.symm)
        have UD : Hid (UT w D A Q (i + 1) pn p W' M' q.cs p.cs (((((wC.setCell ⟨X + 1, 0, none⟩ (.pointer (some ⟨q.R, 0, none⟩))).setCell ⟨X + 1, 1, none⟩ (.int .i64 ((r'.now : Nat) : Int))).setCell ⟨X + 1, 2, none⟩ (.slice ab' bn' bc')).setCell ⟨X + 1, 3, none⟩ (.slice fb' gn' gc')).setCell ⟨X + 1, 4, none⟩ (.slice mb2 nn' nc')) ∧ Blk X 45 [.int .i64 o.kind, .bool true, .string o.lt, .int .i64 o.id, .bool o.ack, .slice o.xa o.xn o.xc] (((((wC.setCell ⟨X + 1, 0, none⟩ (.pointer (some ⟨q.R, 0, none⟩))).setCell ⟨X + 1, 1, none⟩ (.int .i64 ((r'.now : Nat) : Int))).setCell ⟨X + 1, 2, none⟩ (.slice ab' bn' bc')).setCell ⟨X + 1, 3, none⟩ (.slice fb' gn' gc')).setCell ⟨X + 1, 4, none⟩ (.slice mb2 nn' nc')) ∧ Blk (X + 1) 37 [.pointer (some ⟨q.R, 0, none⟩), .int .i64 ((r'.now : Nat) : Int), .slice ab' bn' bc', .slice fb' gn' gc', .slice mb2 nn' nc'] (((((wC.setCell ⟨X + 1, 0, none⟩ (.pointer (some ⟨q.R, 0, none⟩))).setCell ⟨X + 1, 1, none⟩ (.int .i64 ((r'.now : Nat) : Int))).setCell ⟨X + 1, 2, none⟩ (.slice ab' bn' bc')).setCell ⟨X + 1, 3, none⟩ (.slice fb' gn' gc')).setCell ⟨X + 1, 4, none⟩ (.slice mb2 nn' nc'))) := ⟨u1.far k2 (fun g e => by subst e; exact ⟨by have := HS.out; omega, by have := HS.out; omega, by have := HS.out; omega, nX _ (.inr rfl)⟩), bO.kp k2 (fun e => by omega), s1⟩
        have y0 := bX.cell 0 _ rfl
        have y1 := bX.cell 1 _ rfl
        have y2 := bX.cell 2 _ rfl
        have y3 := bX.cell 3 _ rfl
        have y4 := bX.cell 4 _ rfl
        have yF := bX.fz
        have yL := bX.lt
        clear SS sp u1 u2 bX bO s1 s2 k2 UC hpn nX nK szB
        go_upto_region 16 with fail
        clear y0 y1 y2 y3 y4 yF yL
        generalize (((((wC.setCell ⟨X + 1, 0, none⟩ (.pointer (some ⟨q.R, 0, none⟩))).setCell ⟨X + 1, 1, none⟩ (.int .i64 ((r'.now : Nat) : Int))).setCell ⟨X + 1, 2, none⟩ (.slice ab' bn' bc')).setCell ⟨X + 1, 3, none⟩ (.slice fb' gn' gc')).setCell ⟨X + 1, 4, none⟩ (.slice mb2 nn' nc')) = wD at *
        have e1 := UD.out.2.1.cell 1 _ rfl
        have eL := UD.out.2.1.lt
        have f0 := UD.out.2.2.cell 0 _ rfl
        have f1 := UD.out.2.2.cell 1 _ rfl
        have f2 := UD.out.2.2.cell 2 _ rfl
        have f3 := UD.out.2.2.cell 3 _ rfl
        have f4 := UD.out.2.2.cell 4 _ rfl
        have fL := UD.out.2.2.lt
        have z0 := UD.out.1.bA.cell 0 _ rfl
        have z1 := UD.out.1.bA.cell 1 _ rfl
        have z2 := UD.out.1.bA.cell 2 _ rfl
        have z3 := UD.out.1.bA.cell 3 _ rfl
        have z4 := UD.out.1.bA.cell 4 _ rfl
        have zF := UD.out.1.bA.fz
        have zL := UD.out.1.bA.lt
        obtain ⟨s1, s2⟩ := set5 UD.out.1.bA rfl (.pointer (some ⟨q.R, 0, none⟩)) (.int .i64 ((r'.now : Nat) : Int)) (.slice ab' bn' bc') (.slice fb' gn' gc') (.slice mb2 nn' nc')
        have UE : Hid (UT w D A Q (i + 1) pn p W' M' pn.cs p.cs (((((wD.setCell ⟨D, 0, none⟩ (.pointer (some ⟨q.R, 0, none⟩))).setCell ⟨D, 1, none⟩ (.int .i64 ((r'.now : Nat) : Int))).setCell ⟨D, 2, none⟩ (.slice ab' bn' bc')).setCell ⟨D, 3, none⟩ (.slice fb' gn' gc')).setCell ⟨D, 4, none⟩ (.slice mb2 nn' nc'))) := by
          have := UD.out.1.putA s2 s1
          rw [← HPN.out] at this
          exact this
        have neX : X + 1 ≠ D := by have := HS.out; omega
        clear s1 s2 UD
        go_wp2_with fail
        go_roundw
        case rel => exact ⟨i + 1, by go_num, by omega, ⟨p, pn, W', M', UE.out.swap⟩⟩
        case measure => simp [intOf] <;> omega
    · obtain rfl : i = n := by omega
      obtain ⟨p, q, W, M, ut⟩ := HU.out
      have KP : Hid (Calls Try.prog 12 #[.pointer (some ⟨Q, 0, none⟩)] wr fun e w' => e = .returned (.bool true) ∧ Below wr.heap.size wr w') := kept_at Q (4000000 * i) W M wr ut.b (by omega)
      have BL : Hid (Below w.heap.size w wr) := ut.bel
      clear ut HU
      go_wp2_with fail
      refine KP.out.mono ?_
      rintro e wE ⟨rfl, bE⟩
      have BF : Hid (Below w.heap.size w wE) := below_trans BL.out bE
      clear KP bE BL
      go_wp2_with fail
      go_ret
      exact ⟨rfl, BF.out⟩
end Go.Proofs.Ytcnhcdlbippjoaa

namespace Go.Proofs.Ytcnhcdlbippjoaa
open Go.RowKit NwM
theorem RdO.laterU {w w' : World} {v : Value} {os : List OpN} (h : RdO w v os) (b : Below w.heap.size w w') : RdO w' v os := by
  obtain ⟨a, c, e, H⟩ := h
  refine ⟨a, c, e, fun i o hi => ?_⟩
  obtain ⟨g, off, e1, lt, hc, rd⟩ := H i o hi
  exact ⟨g, off, e1, Nat.lt_of_lt_of_le lt b.size, fun j u hu => (b.cell (p := ⟨g, off + i * 6 + j, none⟩) lt).trans (hc j u hu), Rd.later rd b⟩
theorem fc_y (t : Nt) : fateC t ⟨#[121]⟩ = 160 := by
  have h1 : (⟨#[121]⟩ : ByteArray).size = 1 := rfl
  have h2 : allF ⟨#[121]⟩ = false := by decide
  unfold fateC
  rw [h1, if_neg (by omega), if_pos h2]
theorem fc_d : fateC nt0 ⟨#[100]⟩ = 0 := by
  have h1 : (⟨#[100]⟩ : ByteArray).size = 1 := rfl
  have h2 : ¬ (allF ⟨#[100]⟩ = false) := by decide
  unfold fateC
  rw [h1, if_neg (by omega), if_neg h2, if_neg (by decide)]
set_option maxRecDepth 20000 in
set_option maxHeartbeats 2000000 in
theorem begins_at (w : World) : Calls Try.prog 6 #[] w fun e w' => e = .returned (.bool true) ∧ Below w.heap.size w w' := by
  have NE : Hid (Calls Try.prog 8 #[] w (NewN w)) := new_at w
  go_enter Try.func6, Try.ntmps6
  go_wp2_with fail
  refine NE.out.mono ?_
  rintro e w1 ⟨R, S, rfl, n1, s1, b1⟩
  have F1 : Hid (Calls Try.prog 9 #[.pointer (some ⟨R, 0, none⟩), .string ⟨#[121]⟩] w1 fun e w' => e = .returned (.int .i64 160) ∧ ∃ S', NPost R S (fun _ => False) w1 nt0 S' (fun _ => False) w') := by
    have := fate_at R S (fun _ => False) nt0 ⟨#[121]⟩ w1 n1 (by decide)
    have e1 : fateT nt0 ⟨#[121]⟩ = nt0 := by unfold fateT; rw [if_neg (by rw [fc_y]; decide)]
    rw [fc_y, e1] at this
    exact this
  have B1 : Hid (Below w.heap.size w w1 ∧ ∀ g, S g → w.heap.size ≤ g) := ⟨b1, s1⟩
  clear NE n1 s1 b1
  go_wp2_with fail
  refine F1.out.mono ?_
  rintro e w2 ⟨rfl, S2, np⟩
  have F2 : Hid (Calls Try.prog 9 #[.pointer (some ⟨R, 0, none⟩), .string ⟨#[100]⟩] w2 fun e w' => e = .returned (.int .i64 0) ∧ ∃ S', NPost R S2 (fun _ => False) w2 (fateT nt0 ⟨#[100]⟩) S' (fun _ => False) w') := by
    have := fate_at R S2 (fun _ => False) nt0 ⟨#[100]⟩ w2 np.net (by decide)
    rw [fc_d] at this
    exact this
  have B2 : Hid (Below w.heap.size w w2 ∧ ∀ g, S2 g → w.heap.size ≤ g) := ⟨below_kp B1.out.1 np.k B1.out.2, fun g hg => (np.s g hg).elim (B1.out.2 g) (fun z => by have := B1.out.1.size; omega)⟩
  clear F1 np B1
  go_wp2_with fail
  refine F2.out.mono ?_
  rintro e w3 ⟨rfl, S3, np⟩
  have B3 : Hid (Below w.heap.size w w3) := below_kp B2.out.1 np.k B2.out.2
  clear F2 np B2
  go_wp2_with fail
  go_ret
  exact ⟨rfl, B3.out⟩
set_option maxRecDepth 20000 in
set_option maxHeartbeats 2000000 in
theorem ticksU_any (os : List OpN) (v : Value) (w : World) (rd : RdO w v os) (hl : 7 * os.length ≤ 1048576) (hb : ∀ o ∈ os, o.bs.length ≤ 1048576) :
    Calls Try.prog 3 #[v] w fun e w' => e = .returned (.bool true) ∧ Below w.heap.size w w' := by
  have BE : Hid (Calls Try.prog 6 #[] w fun e w' => e = .returned (.bool true) ∧ Below w.heap.size w w') := begins_at w
  obtain ⟨sa, sc, ev⟩ := rd.len
  have UP : Hid (∀ w', Below w.heap.size w w' → Calls Try.prog 7 #[v, .int .i64 4, .int .i64 4] w' fun e w2 => e = .returned (.bool true) ∧ Below w'.heap.size w' w2) := fun w' b => upTo_at os v 4 4 w' (rd.laterU b) hl hb
  subst ev
  clear rd hl hb
  go_enter Try.func3, Try.ntmps3
  go_wp2_with fail
  refine BE.out.mono ?_
  rintro e w1 ⟨rfl, b1⟩
  have U1 := UP.out w1 b1
  have B1 : Hid (Below w.heap.size w w1) := b1
  clear BE UP b1
  go_wp2_with fail
  refine U1.mono ?_
  rintro e w2 ⟨rfl, b2⟩
  have B2 : Hid (Below w.heap.size w w2) := below_trans B1.out b2
  clear U1 b2 B1
  go_wp2_with fail
  go_ret
  exact ⟨rfl, B2.out⟩
set_option maxRecDepth 20000 in
set_option maxHeartbeats 2000000 in
theorem takesU_any (os : List OpN) (v : Value) (w : World) (rd : RdO w v os) (hl : 7 * os.length ≤ 1048576) (hb : ∀ o ∈ os, o.bs.length ≤ 1048576) :
    Calls Try.prog 4 #[v] w fun e w' => e = .returned (.bool true) ∧ Below w.heap.size w w' := by
  have BE : Hid (Calls Try.prog 6 #[] w fun e w' => e = .returned (.bool true) ∧ Below w.heap.size w w') := begins_at w
  obtain ⟨sa, sc, ev⟩ := rd.len
  have UP : Hid (∀ w', Below w.heap.size w w' → Calls Try.prog 7 #[v, .int .i64 6, .int .i64 6] w' fun e w2 => e = .returned (.bool true) ∧ Below w'.heap.size w' w2) := fun w' b => upTo_at os v 6 6 w' (rd.laterU b) hl hb
  subst ev
  clear rd hl hb
  go_enter Try.func4, Try.ntmps4
  go_wp2_with fail
  refine BE.out.mono ?_
  rintro e w1 ⟨rfl, b1⟩
  have U1 := UP.out w1 b1
  have B1 : Hid (Below w.heap.size w w1) := b1
  clear BE UP b1
  go_wp2_with fail
  refine U1.mono ?_
  rintro e w2 ⟨rfl, b2⟩
  have B2 : Hid (Below w.heap.size w w2) := below_trans B1.out b2
  clear U1 b2 B1
  go_wp2_with fail
  go_ret
  exact ⟨rfl, B2.out⟩
set_option maxRecDepth 20000 in
set_option maxHeartbeats 2000000 in
theorem exactU_any (os : List OpN) (v : Value) (w : World) (rd : RdO w v os) (hl : 7 * os.length ≤ 1048576) (hb : ∀ o ∈ os, o.bs.length ≤ 1048576) :
    Calls Try.prog 5 #[v] w fun e w' => e = .returned (.bool true) ∧ Below w.heap.size w w' := by
  have BE : Hid (Calls Try.prog 6 #[] w fun e w' => e = .returned (.bool true) ∧ Below w.heap.size w w') := begins_at w
  obtain ⟨sa, sc, ev⟩ := rd.len
  have UP : Hid (∀ w', Below w.heap.size w w' → Calls Try.prog 7 #[v, .int .i64 1, .int .i64 7] w' fun e w2 => e = .returned (.bool true) ∧ Below w'.heap.size w' w2) := fun w' b => upTo_at os v 1 7 w' (rd.laterU b) hl hb
  subst ev
  clear rd hl hb
  go_enter Try.func5, Try.ntmps5
  go_wp2_with fail
  refine BE.out.mono ?_
  rintro e w1 ⟨rfl, b1⟩
  have U1 := UP.out w1 b1
  have B1 : Hid (Below w.heap.size w w1) := b1
  clear BE UP b1
  go_wp2_with fail
  refine U1.mono ?_
  rintro e w2 ⟨rfl, b2⟩
  have B2 : Hid (Below w.heap.size w w2) := below_trans B1.out b2
  clear U1 b2 B1
  go_wp2_with fail
  go_ret
  exact ⟨rfl, B2.out⟩
end Go.Proofs.Ytcnhcdlbippjoaa
