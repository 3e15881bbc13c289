/-
  Ours: Open where a journal is found and both cuts go well.
-/
import Derived.Test.YtcmfehabcklbpaaDoorJouRcv
namespace Go.Proofs.YtcmfehabcklbpaaDoor
open Go.RowKit JM

namespace JM
/-- The file of a journal. -/
def jf (ep : Nat) (sn : List Nat) (rs : List (List Nat)) : List Nat := CrcM.enc (hp ep sn) ++ CrcM.join (rs.map rp)
theorem whole_nil : (CrcM.whole []).1 = 0 := Classical.byContradiction fun h => by have := (CrcM.whole_pos h).1; simp at this
theorem mkF_empty (m : Nat) : mkF m [] = none := mkF_none whole_nil
theorem mkF_enc (m x : Nat) (r l : List Nat) (h : r.length < 4194304) : mkF m (CrcM.enc (x :: r) ++ l) = if x = m then some (r, r.length + 9) else none := by
  obtain ⟨h1, h2⟩ := CrcM.whole_enc (p := x :: r) (by simp; omega) l
  have h3 : (CrcM.whole (CrcM.enc (x :: r) ++ l)).1 = r.length + 9 := by rw [h1]; simp
  rw [mkF_cons (by omega) h2, h3]
theorem mkF_part (m : Nat) (p : List Nat) (c : Nat) (h : p.length ≤ 4194304) (hc : c < p.length + 8) : mkF m ((CrcM.enc p).take c) = none := by
  by_cases h0 : c = 0
  · subst h0; exact mkF_empty m
  · exact mkF_none (by rw [CrcM.whole_part h (by omega) hc])
/-- Nothing is read of these bytes, however they are cut. -/
def Mute (l : List Nat) : Prop := ∀ c, mkF 82 (l.take c) = none
theorem Mute.nil : Mute [] := fun c => by rw [List.take_nil]; exact mkF_empty 82
theorem Mute.take {l : List Nat} (h : Mute l) (c : Nat) : Mute (l.take c) := fun d => by rw [List.take_take]; exact h _
theorem Mute.none {l : List Nat} (h : Mute l) : mkF 82 l = .none := by have := h l.length; rwa [List.take_length] at this
theorem mute_part (p : List Nat) (c : Nat) (h : p.length ≤ 4194304) (hc : c < p.length + 8) : Mute ((CrcM.enc p).take c) := fun d => by
  rw [List.take_take]; exact mkF_part 82 p _ h (by omega)
theorem join_nil : CrcM.join [] = [] := by simp [CrcM.join]
theorem join_cons (p : List Nat) (ps : List (List Nat)) : CrcM.join (p :: ps) = CrcM.enc p ++ CrcM.join ps := by simp [CrcM.join]
theorem join_app (ps qs : List (List Nat)) : CrcM.join (ps ++ qs) = CrcM.join ps ++ CrcM.join qs := by simp [CrcM.join]
theorem recs_join (rs : List (List Nat)) (l : List Nat) (h : ∀ r ∈ rs, r.length < 4194304) (hl : mkF 82 l = none) : recs (CrcM.join (rs.map rp) ++ l) = (rs, (CrcM.join (rs.map rp)).length) := by
  induction rs with
  | nil => simp [join_nil]; exact recs_none hl
  | cons r rs ih =>
    have hr : r.length < 4194304 := h r (by simp)
    have e : CrcM.join ((r :: rs).map rp) ++ l = CrcM.enc (82 :: r) ++ (CrcM.join (rs.map rp) ++ l) := by
      rw [List.map_cons, join_cons, List.append_assoc]; rfl
    have hm : mkF 82 (CrcM.join ((r :: rs).map rp) ++ l) = some (r, r.length + 9) := by rw [e, mkF_enc 82 82 r _ hr, if_pos rfl]
    have hd : (CrcM.join ((r :: rs).map rp) ++ l).drop (r.length + 9) = CrcM.join (rs.map rp) ++ l := by
      rw [e]; exact CrcM.drop4 _ _ _ (by rw [CrcM.enc_len]; simp)
    rw [recs_some hm, hd, ih (fun x hx => h x (by simp [hx]))]
    rw [List.map_cons, join_cons, List.length_append, CrcM.enc_len]
    simp [rp]
theorem hdF_enc (ep : Nat) (sn l : List Nat) (h1 : 1 ≤ ep) (h2 : ep ≤ 9223372036854775807) (hb : ∀ b ∈ sn, b < 256) (hl : sn.length < 4194290) : hdF (CrcM.enc (hp ep sn) ++ l) = some (ep, sn, (CrcM.enc (hp ep sn)).length) := by
  have hp10 := put_len10 ep (by omega)
  have hm : mkF 72 (CrcM.enc (hp ep sn) ++ l) = some (put ep ++ sn, (put ep ++ sn).length + 9) := by
    show mkF 72 (CrcM.enc (72 :: (put ep ++ sn)) ++ l) = _
    rw [mkF_enc 72 72 _ l (by rw [List.length_append]; omega), if_pos rfl]
  have hr : rd (put ep ++ sn) 0 = some (ep, (put ep).length) := by
    refine (rd_iff (put ep ++ sn) 0 ep _ ?_ (Nat.zero_le _)).2 ⟨sn, rfl, by omega, by omega⟩
    intro c hc
    rcases List.mem_append.1 hc with h | h
    · exact put_byte ep c h
    · exact hb c h
  rw [hdF_some hm, hr]
  show (if 1 ≤ ep ∧ ep ≤ 9223372036854775807 then some (ep, (put ep ++ sn).drop (put ep).length, (put ep ++ sn).length + 9) else none) = _
  rw [if_pos ⟨h1, h2⟩, List.drop_left, CrcM.enc_len]
  simp [hp]
theorem hdF_part (p : List Nat) (c : Nat) (h : p.length ≤ 4194304) (hc : c < p.length + 8) : hdF ((CrcM.enc p).take c) = none := hdF_none (mkF_part 72 p c h hc)
theorem hdF_empty : hdF [] = none := hdF_none (mkF_empty 72)
/-- However it is cut, a header of this file is older. -/
def Old (ep : Nat) (l : List Nat) : Prop := ∀ c e sn n, hdF (l.take c) = some (e, sn, n) → e < ep
theorem Old.nil (ep : Nat) : Old ep [] := fun c e sn n h => by rw [List.take_nil, hdF_empty] at h; cases h
theorem Old.take {ep : Nat} {l : List Nat} (h : Old ep l) (c : Nat) : Old ep (l.take c) := fun d e sn n hh => by rw [List.take_take] at hh; exact h _ e sn n hh
theorem Old.all {ep : Nat} {l : List Nat} (h : Old ep l) {e n : Nat} {sn : List Nat} (hh : hdF l = some (e, sn, n)) : e < ep := h l.length e sn n (by rwa [List.take_length])
theorem Old.part (ep : Nat) (p : List Nat) (c : Nat) (h : p.length ≤ 4194304) (hc : c < p.length + 8) : Old ep ((CrcM.enc p).take c) := fun d e sn n hh => by
  rw [List.take_take, hdF_part p _ h (by omega)] at hh; cases hh
theorem hp_len (ep : Nat) (sn : List Nat) (h2 : ep ≤ 9223372036854775807) (hl : sn.length < 4194290) : (hp ep sn).length ≤ 4194304 := by
  have := put_len10 ep (by omega)
  simp [hp]; omega
/-- A journal's file is old to a later epoch. -/
theorem Old.head (ep : Nat) (sn l : List Nat) (h1 : 1 ≤ ep) (h2 : ep ≤ 9223372036854775807) (hb : ∀ b ∈ sn, b < 256) (hl : sn.length < 4194290) : Old (ep + 1) (CrcM.enc (hp ep sn) ++ l) := fun c e s n hh => by
  have hpl := hp_len ep sn h2 hl
  by_cases hc : c < (hp ep sn).length + 8
  · rw [List.take_append_of_le_length (by rw [CrcM.enc_len]; omega), hdF_part _ _ hpl hc] at hh
    cases hh
  · have : (CrcM.enc (hp ep sn) ++ l).take c = CrcM.enc (hp ep sn) ++ l.take (c - (CrcM.enc (hp ep sn)).length) := by
      rw [List.take_append, List.take_of_length_le (by rw [CrcM.enc_len]; omega)]
    rw [this, hdF_enc ep sn _ h1 h2 hb hl] at hh
    injection hh with hh
    injection hh with hh
    omega
theorem newest0 {ep n : Nat} {b0 b1 sn : List Nat} (h0 : hdF b0 = some (ep, sn, n)) (h1 : Old ep b1) : newest b0 b1 = some (0, ep, sn, n) := by
  unfold newest nwS
  rw [h0]
  cases h : hdF b1 with
  | none => rfl
  | some q =>
    obtain ⟨e, s, m⟩ := q
    have := h1.all h
    show (if ep < e then _ else _) = _
    rw [if_neg (by omega)]
theorem newest1 {ep n : Nat} {b0 b1 sn : List Nat} (h0 : hdF b1 = some (ep, sn, n)) (h1 : Old ep b0) : newest b0 b1 = some (1, ep, sn, n) := by
  unfold newest nwS
  rw [h0]
  cases h : hdF b0 with
  | none => rfl
  | some q =>
    obtain ⟨e, s, m⟩ := q
    have := h1.all h
    show (if e < ep then _ else _) = _
    rw [if_pos (by omega)]
theorem jf_len (ep : Nat) (sn : List Nat) (rs : List (List Nat)) : (jf ep sn rs).length = (CrcM.enc (hp ep sn)).length + (CrcM.join (rs.map rp)).length := by simp [jf]
theorem jf_push (ep : Nat) (sn : List Nat) (rs : List (List Nat)) (r : List Nat) : jf ep sn (rs ++ [r]) = jf ep sn rs ++ CrcM.enc (rp r) := by
  unfold jf
  rw [List.map_append, join_app, List.append_assoc]
  congr 2
  simp [CrcM.join]
theorem jf_drop (ep : Nat) (sn : List Nat) (rs : List (List Nat)) (l : List Nat) : (jf ep sn rs ++ l).drop (CrcM.enc (hp ep sn)).length = CrcM.join (rs.map rp) ++ l := by
  unfold jf; rw [List.append_assoc, List.drop_left]
theorem jf_lt (ep : Nat) (sn : List Nat) (rs : List (List Nat)) (hs : ∀ b ∈ sn, b < 256) (hr : ∀ r ∈ rs, ∀ b ∈ r, b < 256) : ∀ b ∈ jf ep sn rs, b < 256 := by
  intro b hb
  unfold jf at hb
  rcases List.mem_append.1 hb with h | h
  · refine CrcM.enc_lt ?_ b h
    intro c hc
    unfold hp at hc
    rcases List.mem_cons.1 hc with h | h
    · omega
    · rcases List.mem_append.1 h with h | h
      · exact put_byte ep c h
      · exact hs c h
  · unfold CrcM.join at h
    obtain ⟨p, hp, hb⟩ := List.mem_flatMap.1 h
    obtain ⟨r, hr', rfl⟩ := List.mem_map.1 hp
    refine CrcM.enc_lt ?_ b hb
    intro c hc
    rcases List.mem_cons.1 hc with h | h
    · omega
    · exact hr r hr' c h
/-- How long a journal's frames of records are. -/
theorem join_len (rs : List (List Nat)) : (CrcM.join (rs.map rp)).length = (rs.map (fun r => r.length + 9)).sum := by
  induction rs with
  | nil => simp [join_nil]
  | cons r rs ih => rw [List.map_cons, join_cons, List.length_append, ih, CrcM.enc_len]; simp [rp]
end JM
end Go.Proofs.YtcmfehabcklbpaaDoor

namespace Go.Proofs.YtcmfehabcklbpaaDoor
open Go.RowKit JM

set_option maxRecDepth 40000 in
set_option maxHeartbeats 1000000 in
theorem open_gen (R : Nat) (Q : Value → List Value → Int → World → Prop) (w : World) (h : Calls Tryd.prog 33 #[stV R] (w.alloc (.cells rcZ.toArray 34)) fun e w1 => ∃ p l k, e = .returned (.tuple #[p, .agg l.toArray, .int .i64 k]) ∧ l.length = 4 ∧ (∀ v ∈ l, v.oneCell' = true) ∧ Blk w.heap.size 34 rcZ w1 ∧ Q p l k w1) :
    Calls Tryd.prog 12 #[.pointer (some ⟨R, 0, none⟩)] w fun e w' => ∃ p l k w1, e = .returned (.tuple #[p, .agg l.toArray, .int .i64 k]) ∧ Q p l k w1 ∧ Kp (fun g => g = w.heap.size) w1 w' := by
  have RC : Hid (Calls Tryd.prog 33 #[stV R] (w.alloc (.cells #[.int .i64 0, .slice none 0 0, .slice none 0 0, .int .i64 0] 34)) fun e w1 => ∃ p l k, e = .returned (.tuple #[p, .agg l.toArray, .int .i64 k]) ∧ l.length = 4 ∧ (∀ v ∈ l, v.oneCell' = true) ∧ Blk w.heap.size 34 rcZ w1 ∧ Q p l k w1) := h
  clear h
  go_enter Tryd.func12, Tryd.ntmps12
  go_wp2_with fail
  refine RC.out.mono ?_
  rintro e w1 ⟨p, l, k, rfl, hl, h1, hb, hq⟩
  have QQ : Hid (Q p l k w1) := hq
  have L1 : Hid (l.length = 4 ∧ (∀ v ∈ l, v.oneCell' = true)) := ⟨hl, h1⟩
  have B1 : Hid (Blk w.heap.size 34 rcZ w1) := hb
  clear hl h1 hb hq RC
  go_wp2_with ((with_reducible refine at_store ?_); refine step_store rfl 34 _ _ rfl w.heap.size 0 34 rcZ l rfl rfl B1.out (by rw [L1.out.1]; decide) (by rw [L1.out.1]; kernel_rfl) L1.out.2 ?_; intro w2 nb g2; have B2 : Hid (Blk w.heap.size 34 l w2 ∧ Kp (fun g => g = w.heap.size) w1 w2) := ⟨blk_put (by rw [L1.out.1]; decide) nb, (Kp.of_grown g2).mono (fun g _ e => by injection e with e; exact e.symm)⟩; clear nb g2 B1)
  refine ret_tmp_blk_tmp rfl rfl w.heap.size 34 l _ rfl B2.out.1 Tryd.underlying34 rfl (by rw [L1.out.1]; kernel_rfl) ?_
  exact ⟨p, l, k, w1, rfl, QQ.out, B2.out.2⟩
end Go.Proofs.YtcmfehabcklbpaaDoor

namespace Go.Proofs.YtcmfehabcklbpaaDoor
open Go.RowKit JM

/-- The file beside a file. -/
def Dk.ob (t : Dk) (f : Nat) : List Nat := if f = 0 then t.b1 else t.b0
def Dk.fbN (t : Dk) (f : Nat) : List Nat := if f = 0 then t.b0 else t.b1
/-- A disk holds a journal, in the file f, with some bytes behind it of which nothing is read. -/
structure Jr (t : Dk) (f ep : Nat) (sn : List Nat) (rs : List (List Nat)) (tail : List Nat) : Prop where
  f01 : f = 0 ∨ f = 1
  x : t.fbN f = jf ep sn rs ++ tail
  mute : Mute tail
  old : Old ep (t.ob f)
  e1 : 1 ≤ ep
  e2 : ep ≤ 9223372036854775807
  sb : ∀ b ∈ sn, b < 256
  sl : sn.length < 4194290
  rb : ∀ r ∈ rs, ∀ b ∈ r, b < 256
  rl : ∀ r ∈ rs, r.length < 4194304
  tb : ∀ b ∈ tail, b < 256
  ob : ∀ b ∈ t.ob f, b < 256
theorem Jr.hd {t : Dk} {f ep : Nat} {sn : List Nat} {rs : List (List Nat)} {tail : List Nat} (h : Jr t f ep sn rs tail) : hdF (t.fbN f) = some (ep, sn, (CrcM.enc (hp ep sn)).length) := by
  rw [h.x]; unfold jf; rw [List.append_assoc]; exact hdF_enc ep sn _ h.e1 h.e2 h.sb h.sl
theorem Jr.newest {t : Dk} {f ep : Nat} {sn : List Nat} {rs : List (List Nat)} {tail : List Nat} (h : Jr t f ep sn rs tail) : newest t.b0 t.b1 = some (f, ep, sn, (CrcM.enc (hp ep sn)).length) := by
  have h1 := h.hd
  have h2 := h.old
  rcases h.f01 with rfl | rfl
  · exact newest0 h1 h2
  · exact newest1 h1 h2
theorem Jr.recs {t : Dk} {f ep : Nat} {sn : List Nat} {rs : List (List Nat)} {tail : List Nat} (h : Jr t f ep sn rs tail) : recs ((t.fbN f).drop (CrcM.enc (hp ep sn)).length) = (rs, (CrcM.join (rs.map rp)).length) := by
  rw [h.x, jf_drop]; exact recs_join rs tail h.rl h.mute.none
theorem Jr.xb {t : Dk} {f ep : Nat} {sn : List Nat} {rs : List (List Nat)} {tail : List Nat} (h : Jr t f ep sn rs tail) : ∀ b ∈ t.fbN f, b < 256 := by
  rw [h.x]; intro b hb
  rcases List.mem_append.1 hb with h' | h'
  · exact jf_lt ep sn rs h.sb h.rb b h'
  · exact h.tb b h'
theorem Jr.len {t : Dk} {f ep : Nat} {sn : List Nat} {rs : List (List Nat)} {tail : List Nat} (h : Jr t f ep sn rs tail) : (t.fbN f).length = (CrcM.enc (hp ep sn)).length + (CrcM.join (rs.map rp)).length + tail.length := by
  rw [h.x, List.length_append, jf_len]

theorem dkAt_ok {R : Nat} {S : Nat → Prop} {t : Dk} {w : World} (h : DkAt R S t w) : t.Ok := h.1
/-- What Open answers where all goes well. -/
def OpOk (R : Nat) (S : Nat → Prop) (w : World) (t : Dk) (f ep : Nat) (sn : List Nat) (rs : List (List Nat)) (cut : Nat) (e : Ending) (w' : World) : Prop :=
  ∃ G sv rv S', e = .returned (.tuple #[.pointer (some ⟨G, 0, none⟩), .agg (rcL (ep : Int) sv rv (cut : Int)).toArray, .int .i64 0]) ∧ Blk G 72 (jnL R (f : Int) (ep : Int) (rs.length : Int) false) w' ∧
      DkAt R S' t w' ∧ (∀ g, S' g → S g ∨ w.heap.size ≤ g) ∧ ¬ S' G ∧ Kp S w w' ∧ w.heap.size ≤ G ∧ OwnT w.heap.size w' sv sn ∧ TlsV w.heap.size w' rv rs
theorem recovered_ok (R : Nat) (S : Nat → Prop) (t t1 t2 : Dk) (f ep : Nat) (sn : List Nat) (rs : List (List Nat)) (tail : List Nat) (w : World) (hj : Jr t f ep sn rs tail) (hw : 0 ≤ t.wr ∧ t.wr < 1152921504606846976) (hdn : t.dn = false)
    (hc1 : t.cut f (t.fbN f).length (jf ep sn rs).length = (t1, 0)) (hc2 : t1.cut (1 - f) (t.ob f).length 0 = (t2, 0)) (h : DkAt R S t w) (hT : TabS w) : Calls Tryd.prog 33 #[stV R] w (OpOk R S w t2 f ep sn rs tail.length) := by
  have hS := dkAt_size h
  have ok := dkAt_ok h
  have l0 := ok.l0
  have l1 := ok.l1
  have hn := hj.newest
  have hr := hj.recs
  have hx := hj.xb
  have ho := hj.ob
  have hl := hj.len
  rw [jf_len] at hc1
  rcases hj.f01 with rfl | rfl
  · refine (recovered_ok0 R S t t1 t2 t.b0 t.b1 ep _ _ sn rs w rfl rfl hw hdn hn hr hc1 hc2 (by have : (t.fbN 0).length = t.b0.length := rfl; omega) h hS hx ho (by omega) (by omega) hT).mono ?_
    rintro e w' ⟨G, sv, rv, S', rfl, h1, h2, h3, h4, h5, h6, h7, h8⟩
    refine ⟨G, sv, rv, S', ?_, h1, h2, h3, h4, h5, h6, h7, h8⟩
    have hq : (t.fbN 0).length = t.b0.length := rfl
    rw [show ((t.b0.length : Int) - (((CrcM.enc (hp ep sn)).length + (CrcM.join (rs.map rp)).length : Nat) : Int)) = (tail.length : Int) by omega]
  · refine (recovered_ok1 R S t t1 t2 t.b0 t.b1 ep _ _ sn rs w rfl rfl hw hdn hn hr hc1 hc2 (by have : (t.fbN 1).length = t.b1.length := rfl; omega) h hS ho hx (by omega) (by omega) hT).mono ?_
    rintro e w' ⟨G, sv, rv, S', rfl, h1, h2, h3, h4, h5, h6, h7, h8⟩
    refine ⟨G, sv, rv, S', ?_, h1, h2, h3, h4, h5, h6, h7, h8⟩
    have hq : (t.fbN 1).length = t.b1.length := rfl
    rw [show ((t.b1.length : Int) - (((CrcM.enc (hp ep sn)).length + (CrcM.join (rs.map rp)).length : Nat) : Int)) = (tail.length : Int) by omega]

theorem open_ok (R : Nat) (S : Nat → Prop) (t t1 t2 : Dk) (f ep : Nat) (sn : List Nat) (rs : List (List Nat)) (tail : List Nat) (w : World) (hj : Jr t f ep sn rs tail) (hw : 0 ≤ t.wr ∧ t.wr < 1152921504606846976) (hdn : t.dn = false)
    (hc1 : t.cut f (t.fbN f).length (jf ep sn rs).length = (t1, 0)) (hc2 : t1.cut (1 - f) (t.ob f).length 0 = (t2, 0)) (h : DkAt R S t w) (hT : TabS w) : Calls Tryd.prog 12 #[.pointer (some ⟨R, 0, none⟩)] w (OpOk R S w t2 f ep sn rs tail.length) := by
  have hS := dkAt_size h
  have b0 : Below w.heap.size w (w.alloc (.cells rcZ.toArray 34)) := below_alloc _ _
  have sz : (w.alloc (.cells rcZ.toArray 34)).heap.size = w.heap.size + 1 := by simp
  have nz := Blk.new 34 rcZ w
  have hA := recovered_ok R S t t1 t2 f ep sn rs tail _ hj hw hdn hc1 hc2 (h.below b0) (hT.below b0)
  refine (open_gen R (fun p l k w1 => OpOk R S (w.alloc (.cells rcZ.toArray 34)) t2 f ep sn rs tail.length (.returned (.tuple #[p, .agg l.toArray, .int .i64 k])) w1) w (hA.mono ?_)).mono ?_
  · rintro e w1 ⟨G, sv, rv, S', rfl, h1, h2, h3, h4, h5, h6, h7, h8⟩
    refine ⟨_, rcL (ep : Int) sv rv (tail.length : Int), 0, rfl, rfl, ?_, nz.kp h5 (fun hs => by have := hS _ hs; omega), ⟨G, sv, rv, S', rfl, h1, h2, h3, h4, h5, h6, h7, h8⟩⟩
    obtain ⟨g, o, c, rfl, _⟩ := h7.len
    obtain ⟨a, c', rfl, _⟩ := h8.len
    exact rcL_one _ _ _ _ _ _ _ _
  · rintro e w' ⟨p, l, k, w1, rfl, ⟨G, sv, rv, S', he, h1, h2, h3, h4, h5, h6, h7, h8⟩, kp⟩
    have nS : ¬ S w.heap.size := fun hs => by have := hS _ hs; omega
    refine ⟨G, sv, rv, S', he, h1.kp kp (by omega), h2.kp kp (fun g hg e => ?_), fun g hg => (h3 g hg).imp id (fun h => by omega), h4, ?_, by omega, (h7.kp kp (fun g hg => by omega)).mono (by omega), (h8.kp kp (fun g hg => by omega)).mono (by omega)⟩
    · subst e
      rcases h3 _ hg with h | h
      · exact nS h
      · omega
    · exact ((Kp.of_below b0 S).trans h5 (fun _ _ h => h)).trans kp (fun g hg e => by omega)
end Go.Proofs.YtcmfehabcklbpaaDoor
