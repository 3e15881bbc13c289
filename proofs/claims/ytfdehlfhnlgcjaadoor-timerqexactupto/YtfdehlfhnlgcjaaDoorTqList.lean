/-
  Ours: List, given the library's sort.
-/
import Derived.Test.YtfdehlfhnlgcjaaDoorTqKs
import Derived.OwnWalk
import Derived.Lib.SlBuf
namespace Go.Proofs.YtfdehlfhnlgcjaaDoor
open Go.RowKit TqM

/-- What the library's sort does to keys that lie in a block of their own. -/
def SortOk : Prop := ∀ (ks : List Ky) (G cap : Nat) (w : World), Blk G 24 (ksL ks) w → ks.length ≤ 1000000000000 →
  Calls Tryd.prog 54 #[.slice (some ⟨G, 0, none⟩) ks.length cap, .func (.func 55) #[] #[]] w fun e w' => e = .returned (.tuple #[]) ∧ ∃ ks', ks'.Perm ks ∧ ks'.Pairwise (fun a b => ¬ TqM.lt b a) ∧ Blk G 24 (ksL ks') w' ∧ w.grownBy w' (some G)
namespace TqM
/-- Keys in their order. -/
def Srt (ks : List Ky) : Prop := ks.Pairwise lt
theorem Srt.of {ks : List Ky} (h : ks.Pairwise (fun a b => ¬ lt b a)) (hn : ks.Nodup) : Srt ks := by
  refine List.Pairwise.imp₂ (fun a b h1 h2 => ?_) h (List.nodup_iff_pairwise_ne.1 hn)
  rcases lt_or a b h2 with h3 | h3
  · exact h3
  · exact absurd h3 h1
theorem Srt.uniq : ∀ {a b : List Ky}, Srt a → Srt b → a.Perm b → a = b
  | [], b, _, _, h => by rw [h.nil_eq]
  | x :: a, [], _, _, h => by simpa using h.length_eq
  | x :: a, y :: b, ha, hb, h => by
    obtain ⟨h1, h2⟩ := List.pairwise_cons.1 ha
    obtain ⟨h3, h4⟩ := List.pairwise_cons.1 hb
    have e : x = y := by
      rcases List.mem_cons.1 (h.mem_iff.1 (List.mem_cons_self ..)) with e | e
      · exact e
      · rcases List.mem_cons.1 (h.mem_iff.2 (List.mem_cons_self ..)) with e' | e'
        · exact e'.symm
        · exact absurd (h1 y e') (lt_asym (h3 x e))
    subst e
    rw [Srt.uniq h2 h4 ((List.perm_cons x).1 h)]
theorem ksL_store {ks : List Ky} {cur : List Value} {i n : Nat} {k : Ky} (hl : cur.length = n * 3) (hi : i < n) (ht : cur.take (i * 3) = ksL (ks.take i)) (hk : ks[i]? = some k) :
    (cur.take (i * 3) ++ kyL k ++ cur.drop (i * 3 + (kyL k).length)).length = n * 3 ∧ (cur.take (i * 3) ++ kyL k ++ cur.drop (i * 3 + (kyL k).length)).take ((i + 1) * 3) = ksL (ks.take (i + 1)) := by
  have e3 : (kyL k).length = 3 := rfl
  have l1 : (cur.take (i * 3)).length = i * 3 := by rw [List.length_take]; omega
  refine ⟨by simp only [List.length_append, l1, List.length_drop, e3]; omega, ?_⟩
  have hik := (List.getElem?_eq_some_iff.1 hk).1
  rw [List.take_left' (by rw [List.length_append, l1, e3]; omega), ht]
  have : ks.take (i + 1) = ks.take i ++ [k] := by rw [List.take_add_one, hk]; rfl
  rw [this, ksL_append]
  congr 1
end TqM

namespace TQ
set_option maxRecDepth 20000 in
set_option maxHeartbeats 2000000 in
theorem list_at (hS : SortOk) (R : Nat) (S : Nat → Prop) (L : List (Ky × Int)) (w : World) (h : QAt R S L w) (hl : L.length ≤ 1000000000) :
    Calls Tryd.prog 46 #[.pointer (some ⟨R, 0, none⟩)] w fun e w' => ∃ v, e = .returned v ∧ ∃ ks, RowK w.heap.size w' v ks ∧ Srt ks ∧ ks.Perm (L.map (·.1)) ∧ Below w.heap.size w w' := by
  obtain ⟨i0, hi, hz0, hz1, hz2⟩ := info_parts infoK3
  have HS' : Hid SortOk := hS
  have ND := (TQ.QAt.nodup' h)
  obtain ⟨bm, vh, hp, f, q, hs⟩ := h
  have hlp := hs.perm.length_eq
  obtain ⟨n, hn⟩ : ∃ n, hp.length = n := ⟨_, rfl⟩
  have FIN : Hid (∀ ks', ks'.Perm (hp.map (·.1)) → ks'.Pairwise (fun a b => ¬ TqM.lt b a) → Srt ks' ∧ ks'.Perm (L.map (·.1))) := fun ks' h1 h2 => by
    have p := h1.trans (hs.perm.map (·.1))
    exact ⟨Srt.of h2 ((p.nodup_iff).2 ND), p⟩
  have QQ : Hid (QV R bm S hp f vh w) := q
  have c0 := q.blk.cell 0 _ rfl
  obtain ⟨ao, cap, rfl, hcap⟩ : ∃ ao cap, vh = .slice ao n cap ∧ n ≤ cap := by
    rcases q.row.open with ⟨rfl, rfl⟩ | ⟨g, n', cap, cur, rfl, r⟩
    · cases hn; exact ⟨_, _, rfl, Nat.le_refl _⟩
    · have := r.len; rw [hn] at this; cases this; exact ⟨_, _, rfl, r.le⟩
  have CE : Hid (∀ w', Below w.heap.size w w' → ∀ i t, hp[i]? = some t → ∃ g, ao = some ⟨g, 0, none⟩ ∧ w'.cell? ⟨g, i * 4, none⟩ = some (.int .i64 t.1.d) ∧ w'.cell? ⟨g, i * 4 + 1, none⟩ = some (.int .i64 t.1.l) ∧ w'.cell? ⟨g, i * 4 + 2, none⟩ = some (.int .i64 t.1.n) ∧ w'.cell? ⟨g, i * 4 + 3, none⟩ = some (.int .i64 t.2)) := fun w' b i t ht => by
    rcases q.row.open with ⟨e, rfl⟩ | ⟨g, n', cap', cur, e, r⟩
    · cases ht
    · injection e with e1 e2 e3
      subst e1 e2 e3
      have c := QG.cells (⟨q.below b, r.len⟩ : QG R bm g n cap S hp f w') ht
      exact ⟨g, rfl, c⟩
  have HN : Hid (hp.length = n) := hn
  have hn9 : n ≤ 1000000000 := by omega
  have b2 : i0.bytes * n ≤ 281474976710656 := by rw [hz2]; omega
  have b3 : n ≤ maxLen := by unfold maxLen; omega
  clear hS q hs hn hlp hl ND
  go_enter Tryd.func46, Tryd.ntmps46
  go_upto_region 2 with (refine wpList_make_full _ rfl (.tmp 10) (.tmp 10) 86 rfl w.heap.size 24 i0 (.agg #[.int .i64 0, .int .i64 0, .int .i64 0]) 3 Tryd.underlying86 hi hz0 hz1 .i64 .i64 _ _ n rfl rfl rfl rfl b2 b3 (Nat.le_refl _) ?_; intro w2 r2 g2)
  obtain ⟨cur0, hc0, hcl0⟩ : ∃ cur : List Value, Blk w.heap.size 24 cur w2 ∧ cur.length = n * 3 := by
    obtain ⟨_, h2⟩ := r2
    rcases h2 with ⟨e1, _⟩ | ⟨g, cp, cu, e1, _, hg, _, _, hs, _⟩
    · cases e1
    · injection e1 with e1 e2 e3
      injection e1 with e1
      injection e1 with e1
      subst e1 e3
      exact ⟨cu.toList, hg, by rw [Array.length_toList, hs]⟩
  have D2 : Hid (Blk w.heap.size 24 cur0 w2 ∧ cur0.length = n * 3 ∧ Below w.heap.size w w2) := ⟨hc0, hcl0, below_none g2⟩
  have c2 : w2.cell? ⟨R, 0, none⟩ = some (.slice ao n cap) := below_cell (below_none g2) c0
  clear r2 g2 hc0 hcl0 c0 b2 b3 hi hz0 hz1 hz2
  obtain ⟨KB, hKB⟩ : ∃ KB, w.heap.size = KB := ⟨_, rfl⟩
  have HK : Hid (w.heap.size = KB) := hKB
  rw [hKB] at D2 CE ⊢
  clear hKB
  go_wp2_with fail
  go_loopw [17] (fun vi wr => ∃ i : Nat, vi = .int .i64 (i : Int) ∧ i ≤ n ∧ ∃ cur, Hid (Blk KB 24 cur wr ∧ cur.length = n * 3 ∧ cur.take (i * 3) = ksL ((hp.map (·.1)).take i) ∧ Below KB w wr)) (fun vi _ => n - (intOf vi).toNat)
  case atStart => exact ⟨0, rfl, by omega, cur0, D2.out.1, D2.out.2.1, by simp [ksL], D2.out.2.2⟩
  case round =>
    obtain ⟨i, rfl, hin, cur, D⟩ := hrel
    clear D2 c2
    by_cases hlt : (i : Int) < (n : Int)
    · have hin' : i < n := by omega
      obtain ⟨t, ht⟩ : ∃ t, hp[i]? = some t := ⟨hp[i]'(by have := HN.out; omega), List.getElem?_eq_getElem _⟩
      obtain ⟨g, rfl, y0, y1, y2, y3⟩ := CE.out wr D.out.2.2.2 i t ht
      have HT : Hid ((hp.map (·.1))[i]? = some t.1) := by show _ = _; rw [List.getElem?_map, ht]; rfl
      clear ht
      go_upto_region 5 with fail
      have D5 : Hid (Blk KB 24 cur (wr.alloc (.cells #[.int .i64 t.1.d, .int .i64 t.1.l, .int .i64 t.1.n, .int .i64 t.2] 63)) ∧ Blk wr.heap.size 63 (tmL t) (wr.alloc (.cells #[.int .i64 t.1.d, .int .i64 t.1.l, .int .i64 t.1.n, .int .i64 t.2] 63)) ∧ Below KB w (wr.alloc (.cells #[.int .i64 t.1.d, .int .i64 t.1.l, .int .i64 t.1.n, .int .i64 t.2] 63)) ∧ i * 3 + (kyL t.1).length ≤ cur.length) := by
        refine ⟨D.out.1.old _, Blk.new 63 (tmL t) wr, D.out.2.2.2.alloc (by have := D.out.2.2.2.size; have := HK.out; omega) _, ?_⟩
        have := D.out.2.1
        show i * 3 + 3 ≤ _
        omega
      clear y0 y1 y2 y3
      generalize wr.alloc (.cells #[.int .i64 t.1.d, .int .i64 t.1.l, .int .i64 t.1.n, .int .i64 t.2] 63) = w5 at *
      generalize wr.heap.size = G at *
      have x0 := D5.out.2.1.cell 0 _ rfl
      have x1 := D5.out.2.1.cell 1 _ rfl
      have x2 := D5.out.2.1.cell 2 _ rfl
      go_upto_region 6 with (refine step_store rfl 24 (.tmp 26) (.tmp 25) rfl KB (i * 3) 24 cur (kyL t.1) (by rfl) (by rfl) D5.out.1 D5.out.2.2.2 (TQ.infoKy _) (fun v hv => by simp [kyL] at hv; rcases hv with rfl | rfl | rfl <;> rfl) ?_; intro w6 b6 g6)
      have D6 : Hid (Blk KB 24 (cur.take (i * 3) ++ kyL t.1 ++ cur.drop (i * 3 + (kyL t.1).length)) w6 ∧ (cur.take (i * 3) ++ kyL t.1 ++ cur.drop (i * 3 + (kyL t.1).length)).length = n * 3 ∧ (cur.take (i * 3) ++ kyL t.1 ++ cur.drop (i * 3 + (kyL t.1).length)).take ((i + 1) * 3) = ksL ((hp.map (·.1)).take (i + 1)) ∧ Below KB w w6) := by
        have s := ksL_store D.out.2.1 hin' D.out.2.2.1 HT.out
        exact ⟨b6, s.1, s.2, D5.out.2.2.1.grown g6 (by have := D5.out.2.2.1.size; have := HK.out; omega) (fun k e => by cases e; exact Nat.le_refl _)⟩
      clear x0 x1 x2 b6 g6 D5 D HT
      go_wp2_with fail
      go_roundw
      case rel => exact ⟨i + 1, by go_num, by omega, _, D6.out⟩
      case measure => simp [intOf]; omega
    · have ei : i = n := by omega
      subst ei
      have hm : (hp.map (·.1)).length = i := by rw [List.length_map]; exact HN.out
      have E0 : Hid (Blk KB 24 (ksL (hp.map (·.1))) wr) := by
        have := D.out.2.2.1
        rw [List.take_of_length_le (by rw [D.out.2.1]; exact Nat.le_refl _), List.take_of_length_le (by rw [hm]; exact Nat.le_refl _)] at this
        rw [Hid, ← this]
        exact D.out.1
      have SO : Hid (Calls Tryd.prog 54 #[.slice (some ⟨KB, 0, none⟩) i i, .func (.func 55) #[] #[]] wr fun e w' => e = .returned (.tuple #[]) ∧ ∃ ks', ks'.Perm (hp.map (·.1)) ∧ ks'.Pairwise (fun a b => ¬ TqM.lt b a) ∧ Blk KB 24 (ksL ks') w' ∧ wr.grownBy w' (some KB)) := by
        have := HS'.out (hp.map (·.1)) KB i wr E0.out (by rw [hm]; omega)
        rw [hm] at this
        exact this
      have BW : Hid (Below KB w wr) := D.out.2.2.2
      have HM : Hid ((hp.map (·.1)).length = i) := hm
      clear D E0 hm HS' CE
      go_wp2_with fail
      refine SO.out.mono ?_
      rintro e w7 ⟨rfl, ks', p7, s7, b7, g7⟩
      have F7 : Hid (∃ ks, RowK KB w7 (.slice (some ⟨KB, 0, none⟩) i i) ks ∧ Srt ks ∧ ks.Perm (L.map (·.1)) ∧ Below KB w w7) := by
        obtain ⟨f1, f2⟩ := FIN.out ks' p7 s7
        have hlen : ks'.length = i := by rw [p7.length_eq]; exact HM.out
        refine ⟨ks', ⟨by rw [ksL_len], .inr ⟨KB, i, (ksL ks').toArray, by rw [hlen], Nat.le_refl _, b7, by omega, by unfold maxLen; omega, by rw [List.size_toArray, ksL_len, hlen], ?_⟩⟩, f1, f2, BW.out.grown g7 (by have := BW.out.size; have := HK.out; omega) (fun k e => by cases e; exact Nat.le_refl _)⟩
        simp only
        rw [List.take_of_length_le (by rw [ksL_len]; exact Nat.le_refl _)]
      clear SO FIN p7 s7 b7 g7
      go_wp2_with fail
      go_ret
      refine ⟨_, rfl, ?_⟩
      rw [HK.out]
      exact F7.out
end TQ
end Go.Proofs.YtfdehlfhnlgcjaaDoor
