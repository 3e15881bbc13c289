/-
  Ours: JournalTorn's walk (gen_joutrn.py: THE SEAT's OWN NUMBERS).
-/
import Derived.Test.YtcmfehabcklbpaaDoorJouLaw
import Derived.Deep.AppendLies
import Derived.Deep.CutRange
namespace Go.Proofs.YtcmfehabcklbpaaDoor
open Go.RowKit JM

/-- A disk without a crash, all durable: x in the file f, o in the other. -/
def D2 (f : Nat) (x o : List Nat) (wr : Int) : Dk := if f = 0 then ⟨x, x.length, o, o.length, [], wr, false⟩ else ⟨o, o.length, x, x.length, [], wr, false⟩
theorem D2_dn (f : Nat) (x o : List Nat) (wr : Int) : (D2 f x o wr).dn = false := by unfold D2; split <;> rfl
theorem D2_wr (f : Nat) (x o : List Nat) (wr : Int) : (D2 f x o wr).wr = wr := by unfold D2; split <;> rfl
theorem D2_x {f : Nat} (hf : f = 0 ∨ f = 1) (x o : List Nat) (wr : Int) : (D2 f x o wr).fbN f = x := by rcases hf with rfl | rfl <;> rfl
theorem D2_o {f : Nat} (hf : f = 0 ∨ f = 1) (x o : List Nat) (wr : Int) : (D2 f x o wr).ob f = o := by rcases hf with rfl | rfl <;> rfl
theorem D2_lay {f : Nat} (hf : f = 0 ∨ f = 1) (x o F : List Nat) (wr : Int) (h : x.length + F.length ≤ 16777216) : (D2 f x o wr).lay f F = (D2 f (x ++ F) o (wr + 2), 0) := by
  rcases hf with rfl | rfl
  · have e : (D2 0 x o wr).append 0 F = (⟨x ++ F, x.length, o, o.length, [], wr + 1, false⟩, 0) := by
      show (if (0 : Int) ≠ 0 then _ else if 16777216 < x.length + F.length then _ else _) = _
      rw [if_neg (by omega), if_neg (by omega)]; rfl
    have s : (⟨x ++ F, x.length, o, o.length, [], wr + 1, false⟩ : Dk).sync 0 = (⟨x ++ F, (x ++ F).length, o, o.length, [], wr + 1 + 1, false⟩, 0) := rfl
    show (if ((D2 0 x o wr).append 0 F).2 ≠ 0 then _ else ((D2 0 x o wr).append 0 F).1.sync 0) = _
    rw [e, if_neg (by simp), s, show wr + 1 + 1 = wr + 2 by omega]; rfl
  · have e : (D2 1 x o wr).append 1 F = (⟨o, o.length, x ++ F, x.length, [], wr + 1, false⟩, 0) := by
      show (if (0 : Int) ≠ 0 then _ else if 16777216 < x.length + F.length then _ else _) = _
      rw [if_neg (by omega), if_neg (by omega)]; rfl
    have s : (⟨o, o.length, x ++ F, x.length, [], wr + 1, false⟩ : Dk).sync 1 = (⟨o, o.length, x ++ F, (x ++ F).length, [], wr + 1 + 1, false⟩, 0) := rfl
    show (if ((D2 1 x o wr).append 1 F).2 ≠ 0 then _ else ((D2 1 x o wr).append 1 F).1.sync 1) = _
    rw [e, if_neg (by simp), s, show wr + 1 + 1 = wr + 2 by omega]; rfl
theorem D2_cut {f : Nat} (x o : List Nat) (wr : Int) {n : Nat} (h : x.length = n) : (D2 f x o wr).cut f x.length n = (D2 f x o wr, 0) := by
  unfold Dk.cut; rw [if_pos h]
/-- A write more, where there is something to cut. -/
def more (o : List Nat) : Int := if o.length = 0 then 0 else 1
theorem D2_durable (x o : List Nat) (wr : Int) : (D2 0 x o wr).durable 0 = (x, 0) := by
  show (if (0 : Int) = 0 ∨ (0 : Int) = 1 then (x.take x.length, (0 : Int)) else _) = _
  rw [if_pos (by omega), List.take_length]
theorem D2_cuto {f : Nat} (hf : f = 0 ∨ f = 1) (x o : List Nat) (wr : Int) : (D2 f x o wr).cut (1 - (f : Int)) o.length 0 = (D2 f x [] (wr + more o), 0) := by
  unfold Dk.cut more
  by_cases h : o.length = 0
  · rw [if_pos h, if_pos h]
    obtain rfl : o = [] := List.length_eq_zero_iff.1 h
    rw [Int.add_zero]
  · rw [if_neg h, if_neg h]
    rcases hf with rfl | rfl
    · show (if (0 : Int) ≠ 0 then _ else if ((0 : Nat) : Int) < 0 ∨ (o.length : Int) < ((0 : Nat) : Int) then _ else _) = _
      rw [if_neg (by omega), if_neg (by omega)]; rfl
    · show (if (0 : Int) ≠ 0 then _ else if ((0 : Nat) : Int) < 0 ∨ (o.length : Int) < ((0 : Nat) : Int) then _ else _) = _
      rw [if_neg (by omega), if_neg (by omega)]; rfl
theorem D2_turn {f : Nat} (hf : f = 0 ∨ f = 1) (x o : List Nat) (wr : Int) : D2 f x o wr = D2 (1 - f) o x wr := by rcases hf with rfl | rfl <;> rfl
theorem oneSub {f : Nat} (hf : f = 0 ∨ f = 1) : ((1 - f : Nat) : Int) = 1 - (f : Int) := by rcases hf with rfl | rfl <;> rfl
theorem oneSub01 {f : Nat} (_hf : f = 0 ∨ f = 1) : 1 - f = 0 ∨ 1 - f = 1 := by omega
theorem D2_read {f : Nat} (hf : f = 0 ∨ f = 1) (x o : List Nat) (wr : Int) : (D2 f x o wr).read (1 - (f : Int)) = (o, 0) := by rcases hf with rfl | rfl <;> rfl
theorem D2_renew {f : Nat} (hf : f = 0 ∨ f = 1) (x o F : List Nat) (wr : Int) (h : F.length ≤ 16777216) : (D2 f x o wr).renew (1 - (f : Int)) F = (D2 (1 - f) F x (wr + 2 + more o), 0) := by
  unfold Dk.renew
  rw [D2_read hf, if_neg (by simp)]
  show (if ((D2 f x o wr).cut (1 - (f : Int)) o.length 0).2 ≠ 0 then _ else ((D2 f x o wr).cut (1 - (f : Int)) o.length 0).1.lay (1 - (f : Int)) F) = _
  rw [D2_cuto hf, if_neg (by simp), D2_turn hf, ← oneSub hf]
  show (D2 (1 - f) [] x (wr + more o)).lay ((1 - f : Nat) : Int) F = _
  rw [D2_lay (oneSub01 hf) _ _ _ _ (by simpa using h), List.nil_append, show wr + more o + 2 = wr + 2 + more o by omega]
theorem D2_fmt (F : List Nat) (h : F.length ≤ 16777216) : (Dk.load [] []).fmt F = (D2 0 F [] 2, 0) := by
  have e : Dk.load [] [] = D2 0 [] [] 0 := rfl
  rw [e]
  have c1 : (D2 0 [] [] 0).cut 1 ([] : List Nat).length 0 = (D2 0 [] [] 0, 0) := rfl
  have c0 : (D2 0 [] [] 0).cut 0 ([] : List Nat).length 0 = (D2 0 [] [] 0, 0) := rfl
  have l : (D2 0 [] [] 0).lay 0 F = (D2 0 F [] 2, 0) := D2_lay (f := 0) (.inl rfl) [] [] F 0 (by simpa using h)
  unfold Dk.fmt
  rw [if_neg (by rw [D2_dn]; decide)]
  show (if ((D2 0 [] [] 0).cut 1 ([] : List Nat).length 0).2 ≠ 0 then _ else if (((D2 0 [] [] 0).cut 1 ([] : List Nat).length 0).1.cut 0 ([] : List Nat).length 0).2 ≠ 0 then _ else (((D2 0 [] [] 0).cut 1 ([] : List Nat).length 0).1.cut 0 ([] : List Nat).length 0).1.lay 0 F) = _
  rw [c1, if_neg (by simp)]
  show (if ((D2 0 [] [] 0).cut 0 ([] : List Nat).length 0).2 ≠ 0 then _ else ((D2 0 [] [] 0).cut 0 ([] : List Nat).length 0).1.lay 0 F) = _
  rw [c0, if_neg (by simp)]
  exact l

theorem jf_len1 (ep : Nat) (sn : List Nat) (he : ep ≤ 1000000000) : (jf ep sn []).length ≤ 19 + sn.length := by
  have := put_len10 ep (by omega)
  rw [jf_len, CrcM.enc_len, List.map_nil, join_nil]; simp [hp]; omega
theorem jf_len_push (ep : Nat) (sn : List Nat) (rs : List (List Nat)) (r : List Nat) : (jf ep sn (rs ++ [r])).length = (jf ep sn rs).length + r.length + 9 := by
  rw [jf_push, List.length_append, CrcM.enc_len]; simp [rp]; omega
/-- What is in a journal's files. -/
structure JB (f ep : Nat) (sn : List Nat) (rs : List (List Nat)) (o : List Nat) : Prop where
  f01 : f = 0 ∨ f = 1
  old : Old ep o
  e1 : 1 ≤ ep
  e2 : ep ≤ 1000000000
  sb : ∀ b ∈ sn, b < 256
  sl : sn.length ≤ 4096
  rb : ∀ r ∈ rs, ∀ b ∈ r, b < 256
  rl : ∀ r ∈ rs, r.length ≤ 4096
  ob : ∀ b ∈ o, b < 256
theorem JB.jr {f ep : Nat} {sn : List Nat} {rs : List (List Nat)} {o : List Nat} (h : JB f ep sn rs o) (wr : Int) : Jr (D2 f (jf ep sn rs) o wr) f ep sn rs [] :=
  ⟨h.f01, by rw [D2_x h.f01, List.append_nil], Mute.nil, by rw [D2_o h.f01]; exact h.old, h.e1, by have := h.e2; omega, h.sb, by have := h.sl; omega, h.rb, fun r hr => by have := h.rl r hr; omega, (fun b hb => nomatch hb), by rw [D2_o h.f01]; exact h.ob⟩
theorem JB.push {f ep : Nat} {sn r o : List Nat} {rs : List (List Nat)} (h : JB f ep sn rs o) (hr : ∀ b ∈ r, b < 256) (hl : r.length ≤ 4096) : JB f ep sn (rs ++ [r]) o :=
  ⟨h.f01, h.old, h.e1, h.e2, h.sb, h.sl, fun x hx => (List.mem_append.1 hx).elim (h.rb x) (fun e => by rw [List.mem_singleton.1 e]; exact hr), fun x hx => (List.mem_append.1 hx).elim (h.rl x) (fun e => by rw [List.mem_singleton.1 e]; exact hl), h.ob⟩
theorem JB.next {f ep : Nat} {sn s o : List Nat} {rs : List (List Nat)} (h : JB f ep sn rs o) (hr : ∀ b ∈ s, b < 256) (hl : s.length ≤ 4096) (he : ep < 1000000000) : JB (1 - f) (ep + 1) s [] (jf ep sn rs) :=
  ⟨oneSub01 h.f01, by unfold jf; exact Old.head ep sn _ h.e1 (by omega) h.sb (by have := h.sl; omega), by omega, by omega, hr, hl, (fun r hr => nomatch hr), (fun r hr => nomatch hr), jf_lt ep sn rs h.sb h.rb⟩
theorem JB.clear {f ep : Nat} {sn o : List Nat} {rs : List (List Nat)} (h : JB f ep sn rs o) : JB f ep sn rs [] := ⟨h.f01, Old.nil ep, h.e1, h.e2, h.sb, h.sl, h.rb, h.rl, fun _ hb => nomatch hb⟩
/-- A journal at J that lives on the disk at R, all made since w0. -/
structure JL (w0 : World) (R J : Nat) (S : Nat → Prop) (f ep : Nat) (sn : List Nat) (rs : List (List Nat)) (o : List Nat) (wr : Int) (w : World) : Prop where
  d : DkAt R S (D2 f (jf ep sn rs) o wr) w
  j : Blk J 72 (jnL R (f : Int) (ep : Int) (rs.length : Int) false) w
  n : ¬ S J
  sS : ∀ g, S g → w0.heap.size ≤ g
  sJ : w0.heap.size ≤ J
  b : Below w0.heap.size w0 w
  jb : JB f ep sn rs o
theorem JL.later {w0 : World} {R J : Nat} {S : Nat → Prop} {f ep : Nat} {sn : List Nat} {rs : List (List Nat)} {o : List Nat} {wr : Int} {w w1 : World} (h : JL w0 R J S f ep sn rs o wr w) (hb : Below w.heap.size w w1) : JL w0 R J S f ep sn rs o wr w1 :=
  ⟨h.d.below hb, h.j.below hb, h.n, h.sS, h.sJ, below_trans h.b hb, h.jb⟩
theorem Kp.over {M : Nat → Prop} {w0 w w' : World} (hb : Below w0.heap.size w0 w) (k : Kp M w w') (hM : ∀ g, M g → w0.heap.size ≤ g) : Below w0.heap.size w0 w' :=
  ⟨k.os.trans hb.os, k.tape.trans hb.tape, k.output.trans hb.output, Nat.le_trans hb.size k.size, fun g hg => (k.block g (Nat.lt_of_lt_of_le hg hb.size) (fun h => by have := hM g h; omega)).trans (hb.block g hg)⟩

/-- What else a call on a journal leaves. -/
def JX (J : Nat) (S S' : Nat → Prop) (w w' : World) : Prop := (∀ g, S' g → S g ∨ w.heap.size ≤ g) ∧ Kp (fun g => S g ∨ g = J) w w'
theorem JL.ofx {w0 : World} {R J : Nat} {S : Nat → Prop} {f ep f' ep' : Nat} {sn sn' : List Nat} {rs rs' : List (List Nat)} {o o' : List Nat} {wr wr' : Int} {w w' : World} (h : JL w0 R J S f ep sn rs o wr w) (hb : JB f' ep' sn' rs' o') (p : JnPost R J S w (D2 f' (jf ep' sn' rs') o' wr') (jnL R (f' : Int) (ep' : Int) (rs'.length : Int) false) w') : ∃ S', JL w0 R J S' f' ep' sn' rs' o' wr' w' ∧ JX J S S' w w' := by
  obtain ⟨S', d, g1, b, k⟩ := p
  have lt := h.j.lt
  refine ⟨S', ⟨d, b, fun hs => (g1 J hs).elim h.n (fun h => by omega), fun g hg => (g1 g hg).elim (h.sS g) (fun hh => Nat.le_trans h.b.size hh), h.sJ, Kp.over h.b k (fun g hg => ?_), hb⟩, g1, k⟩
  rcases hg with hg | rfl
  · exact h.sS g hg
  · exact h.sJ
theorem JL.of {w0 : World} {R J : Nat} {S : Nat → Prop} {f ep f' ep' : Nat} {sn sn' : List Nat} {rs rs' : List (List Nat)} {o o' : List Nat} {wr wr' : Int} {w w' : World} (h : JL w0 R J S f ep sn rs o wr w) (hb : JB f' ep' sn' rs' o') (p : JnPost R J S w (D2 f' (jf ep' sn' rs') o' wr') (jnL R (f' : Int) (ep' : Int) (rs'.length : Int) false) w') : ∃ S', JL w0 R J S' f' ep' sn' rs' o' wr' w' := by
  obtain ⟨S', d, g1, b, k⟩ := p
  have lt := h.j.lt
  refine ⟨S', d, b, fun hs => (g1 J hs).elim h.n (fun h => by omega), fun g hg => (g1 g hg).elim (h.sS g) (fun hh => Nat.le_trans h.b.size hh), h.sJ, Kp.over h.b k (fun g hg => ?_), hb⟩
  rcases hg with hg | rfl
  · exact h.sS g hg
  · exact h.sJ
theorem jl_appendx {w0 : World} {R J : Nat} {S : Nat → Prop} {f ep : Nat} {sn : List Nat} {rs : List (List Nat)} {o : List Nat} {wr : Int} {w : World} (h : JL w0 R J S f ep sn rs o wr w) (hw : 0 ≤ wr ∧ wr < 1000000000) (hn : rs.length ≤ 1000000000) (r : List Nat) (ad : Option Addr) (n c : Nat) (hr : ∀ b ∈ r, b < 256) (hl : r.length ≤ 4096) (hx : (jf ep sn rs).length + r.length + 9 ≤ 16777216) (hd : RdB w (.slice ad n c) r) (hT : TabS w) :
    Calls Tryd.prog 13 #[.pointer (some ⟨J, 0, none⟩), .slice ad n c] w fun e w' => e = .returned (.int .i64 0) ∧ ∃ S', JL w0 R J S' f ep sn (rs ++ [r]) o (wr + 2) w' ∧ JX J S S' w w' := by
  have e := D2_lay h.jb.f01 (jf ep sn rs) o (CrcM.enc (rp r)) wr (by rw [CrcM.enc_len]; simp [rp]; omega)
  refine (append_live R J S _ (f : Int) (ep : Int) (rs.length : Int) r ad n c w (by rw [D2_wr]; omega) (by omega) h.d (dkAt_size h.d) h.j h.n hr (by omega) hd hT).mono ?_
  rw [e]
  rintro x w' ⟨rfl, p⟩
  refine ⟨rfl, h.ofx (h.jb.push hr hl) ?_⟩
  rw [if_pos rfl] at p
  rw [jf_push, List.length_append]
  exact p
theorem jl_append {w0 : World} {R J : Nat} {S : Nat → Prop} {f ep : Nat} {sn : List Nat} {rs : List (List Nat)} {o : List Nat} {wr : Int} {w : World} (h : JL w0 R J S f ep sn rs o wr w) (hw : 0 ≤ wr ∧ wr < 1000000000) (hn : rs.length ≤ 1000000000) (r : List Nat) (ad : Option Addr) (n c : Nat) (hr : ∀ b ∈ r, b < 256) (hl : r.length ≤ 4096) (hx : (jf ep sn rs).length + r.length + 9 ≤ 16777216) (hd : RdB w (.slice ad n c) r) (hT : TabS w) :
    Calls Tryd.prog 13 #[.pointer (some ⟨J, 0, none⟩), .slice ad n c] w fun e w' => e = .returned (.int .i64 0) ∧ ∃ S', JL w0 R J S' f ep sn (rs ++ [r]) o (wr + 2) w' :=
  (jl_appendx h hw hn r ad n c hr hl hx hd hT).mono fun _ _ ⟨h1, S', h2, _⟩ => ⟨h1, S', h2⟩
theorem jl_compact {w0 : World} {R J : Nat} {S : Nat → Prop} {f ep : Nat} {sn : List Nat} {rs : List (List Nat)} {o : List Nat} {wr : Int} {w : World} (h : JL w0 R J S f ep sn rs o wr w) (hw : 0 ≤ wr ∧ wr < 1000000000) (r : List Nat) (ad : Option Addr) (n c : Nat) (hr : ∀ b ∈ r, b < 256) (hl : r.length ≤ 4096) (he : ep < 1000000000) (hd : RdB w (.slice ad n c) r) (hT : TabS w) :
    Calls Tryd.prog 14 #[.pointer (some ⟨J, 0, none⟩), .slice ad n c] w fun e w' => e = .returned (.int .i64 0) ∧ ∃ S', JL w0 R J S' (1 - f) (ep + 1) r [] (jf ep sn rs) (wr + 2 + more o) w' := by
  have hpl := put_len10 (ep + 1) (by omega)
  have e := D2_renew h.jb.f01 (jf ep sn rs) o (CrcM.enc (hp (ep + 1) r)) wr (by rw [CrcM.enc_len]; simp [hp]; omega)
  have f01 : (f : Int) = 0 ∨ (f : Int) = 1 := by have := h.jb.f01; omega
  refine (compact_live R J S _ (f : Int) ep (rs.length : Int) r ad n c w (by rw [D2_wr]; omega) f01 (by omega) h.d (dkAt_size h.d) h.j h.n hr (by omega) hd hT).mono ?_
  rw [e]
  rintro x w' ⟨rfl, p⟩
  refine ⟨rfl, h.of (h.jb.next hr hl he) ?_⟩
  rw [if_pos rfl] at p
  have e2 : jf (ep + 1) r [] = CrcM.enc (hp (ep + 1) r) := by unfold jf; rw [List.map_nil, join_nil, List.append_nil]
  rw [e2, oneSub h.jb.f01]
  exact p
theorem jl_open {w0 : World} {R J : Nat} {S : Nat → Prop} {f ep : Nat} {sn : List Nat} {rs : List (List Nat)} {o : List Nat} {wr : Int} {w : World} (h : JL w0 R J S f ep sn rs o wr w) (hw : 0 ≤ wr ∧ wr < 1000000000) (hT : TabS w) :
    Calls Tryd.prog 12 #[.pointer (some ⟨R, 0, none⟩)] w fun e w' => ∃ G sv rv S', e = .returned (.tuple #[.pointer (some ⟨G, 0, none⟩), .agg (rcL (ep : Int) sv rv 0).toArray, .int .i64 0]) ∧ JL w0 R G S' f ep sn rs [] (wr + more o) w' ∧ OwnT w.heap.size w' sv sn ∧ TlsV w.heap.size w' rv rs ∧ Kp S w w' := by
  refine (open_ok R S _ _ _ f ep sn rs [] w (h.jb.jr wr) (by rw [D2_wr]; omega) (D2_dn _ _ _ _) (by rw [D2_x h.jb.f01]; exact D2_cut _ _ _ rfl) (by rw [D2_o h.jb.f01]; exact D2_cuto h.jb.f01 _ _ _) h.d hT).mono ?_
  rintro e w' ⟨G, sv, rv, S', rfl, h1, h2, h3, h4, h5, h6, h7, h8⟩
  exact ⟨G, sv, rv, S', rfl, ⟨h2, h1, h4, fun g hg => (h3 g hg).elim (h.sS g) (fun hh => Nat.le_trans h.b.size hh), Nat.le_trans h.b.size h6, Kp.over h.b h5 h.sS, h.jb.clear⟩, h7, h8, h5⟩
/-- A new disk, formatted, and opened. -/
theorem jl_format {w0 : World} {R : Nat} {S : Nat → Prop} {w : World} (sn : List Nat) (ad : Option Addr) (n c : Nat) (h : DkAt R S (Dk.load [] []) w) (hS : ∀ g, S g → w0.heap.size ≤ g) (hb : Below w0.heap.size w0 w) (hr : ∀ b ∈ sn, b < 256) (hl : sn.length ≤ 4096) (hd : RdB w (.slice ad n c) sn) (hT : TabS w) :
    Calls Tryd.prog 9 #[.pointer (some ⟨R, 0, none⟩), .slice ad n c] w fun e w' => e = .returned (.int .i64 0) ∧ ∃ S', DkAt R S' (D2 0 (jf 1 sn []) [] 2) w' ∧ (∀ g, S' g → w0.heap.size ≤ g) ∧ Below w0.heap.size w0 w' := by
  have hpl := put_len10 1 (by omega)
  have e := D2_fmt (CrcM.enc (hp 1 sn)) (by rw [CrcM.enc_len]; simp [hp]; omega)
  have e2 : jf 1 sn [] = CrcM.enc (hp 1 sn) := by unfold jf; rw [List.map_nil, join_nil, List.append_nil]
  refine (formatD_up R S _ sn ad n c w ⟨by show (0 : Int) ≤ 0; omega, by show (0 : Int) < _; omega⟩ rfl h (dkAt_size h) hr (by omega) hd hT).mono ?_
  rw [e]
  rintro x w' ⟨rfl, S', d, g1, k⟩
  refine ⟨rfl, S', by rw [e2]; exact d, fun g hg => (g1 g hg).elim (hS g) (fun hh => Nat.le_trans hb.size hh), Kp.over hb k hS⟩
theorem jl_first {w0 : World} {R : Nat} {S : Nat → Prop} {w : World} (sn : List Nat) (h : DkAt R S (D2 0 (jf 1 sn []) [] 2) w) (hS : ∀ g, S g → w0.heap.size ≤ g) (hb : Below w0.heap.size w0 w) (hr : ∀ b ∈ sn, b < 256) (hl : sn.length ≤ 4096) (hT : TabS w) :
    Calls Tryd.prog 12 #[.pointer (some ⟨R, 0, none⟩)] w fun e w' => ∃ G sv rv S', e = .returned (.tuple #[.pointer (some ⟨G, 0, none⟩), .agg (rcL 1 sv rv 0).toArray, .int .i64 0]) ∧ JL w0 R G S' 0 1 sn [] [] 2 w' ∧ OwnT w.heap.size w' sv sn ∧ TlsV w.heap.size w' rv [] ∧ Kp S w w' := by
  have jb : JB 0 1 sn [] [] := ⟨.inl rfl, Old.nil 1, by omega, by omega, hr, hl, (fun r hr => nomatch hr), (fun r hr => nomatch hr), fun _ hb => nomatch hb⟩
  refine (open_ok R S _ _ _ 0 1 sn [] [] w (jb.jr 2) (by rw [D2_wr]; omega) (D2_dn _ _ _ _) (by rw [D2_x jb.f01]; exact D2_cut _ _ _ rfl) (by rw [D2_o jb.f01]; exact D2_cuto jb.f01 _ _ _) h hT).mono ?_
  rintro e w' ⟨G, sv, rv, S', rfl, h1, h2, h3, h4, h5, h6, h7, h8⟩
  exact ⟨G, sv, rv, S', rfl, ⟨h2, h1, h4, fun g hg => (h3 g hg).elim (hS g) (fun hh => Nat.le_trans hb.size hh), Nat.le_trans hb.size h6, Kp.over hb h5 hS, jb⟩, h7, h8, h5⟩
end Go.Proofs.YtcmfehabcklbpaaDoor

namespace Go.Proofs.YtcmfehabcklbpaaDoor
open Go.RowKit JM

/-- What came in ahead of w0. -/
def Inp (w0 : World) (v : Value) (bs : List Nat) : Prop := (∃ a c, v = .slice a bs.length c) ∧ ∀ w', Below w0.heap.size w0 w' → RdB w' v bs
/-- A list of one's own of what came in. -/
structure LstV (w0 : World) (base : Nat) (w : World) (v : Value) (ps : List (List Nat)) : Prop where
  row : ∃ vs : List Value, RowV 22 base w v vs ∧ vs.length = ps.length ∧ ∀ y ∈ vs.zip ps, Inp w0 y.1 y.2
theorem LstV.nil (w0 : World) (base : Nat) (w : World) : LstV w0 base w (.slice none 0 0) [] := ⟨[], RowV.nil _ _ _, rfl, fun _ hx => nomatch hx⟩
theorem LstV.later {w0 : World} {base : Nat} {w w' : World} {v : Value} {ps : List (List Nat)} (h : LstV w0 base w v ps) (hb : Below w.heap.size w w') : LstV w0 base w' v ps := by
  obtain ⟨vs, h1, h2, h3⟩ := h.row
  exact ⟨vs, RowV.later h1 hb, h2, h3⟩
theorem LstV.mono {w0 : World} {base base' : Nat} {w : World} {v : Value} {ps : List (List Nat)} (h : LstV w0 base w v ps) (hb : base' ≤ base) : LstV w0 base' w v ps := by
  obtain ⟨vs, h1, h2, h3⟩ := h.row
  exact ⟨vs, RowV.mono h1 hb, h2, h3⟩
theorem LstV.len {w0 : World} {base : Nat} {w : World} {v : Value} {ps : List (List Nat)} (h : LstV w0 base w v ps) : ∃ a c, v = .slice a ps.length c ∧ ps.length ≤ c := by
  obtain ⟨vs, h1, h2, -⟩ := h.row
  obtain ⟨a, c, e, hc, -⟩ := (RowV.rd h1).len
  exact ⟨a, c, by rw [← h2]; exact e, by rw [← h2]; exact hc⟩
theorem rd_zip {w : World} {v : Value} {vs : List Value} {ps : List (List Nat)} (hr : Rd w v vs) (hl : vs.length = ps.length) (hz : ∀ y ∈ vs.zip ps, (∃ a c, y.1 = .slice a y.2.length c) ∧ RdB w y.1 y.2) : RdR w v ps := by
  obtain ⟨ao, cap, rfl, hc, _, H⟩ := hr
  refine ⟨ao, cap, by rw [hl], by omega, fun i hi => ?_⟩
  obtain ⟨g, o, e1, lt, e2⟩ := H i (by omega)
  have hm : (vs[i], ps[i]) ∈ vs.zip ps := by
    have : (vs.zip ps)[i]? = some (vs[i], ps[i]) := by rw [List.getElem?_zip_eq_some]; exact ⟨List.getElem?_eq_getElem _, List.getElem?_eq_getElem _⟩
    exact List.mem_of_getElem? this
  obtain ⟨⟨a', c', e3⟩, hb⟩ := hz _ hm
  have hg : ps.getD i [] = ps[i] := by rw [List.getD_eq_getElem?_getD, List.getElem?_eq_getElem hi]; rfl
  refine ⟨g, o, a', c', e1, lt, ?_, ?_⟩
  · rw [e2, hg]; exact congrArg some e3
  · rw [hg, ← e3]; exact hb
theorem LstV.rd {w0 : World} {base : Nat} {w : World} {v : Value} {ps : List (List Nat)} (h : LstV w0 base w v ps) (hb : Below w0.heap.size w0 w) : RdR w v ps := by
  obtain ⟨vs, h1, h2, h3⟩ := h.row
  exact rd_zip (RowV.rd h1) h2 (fun y hy => ⟨(h3 y hy).1, (h3 y hy).2 w hb⟩)
theorem TlsV.rd {base : Nat} {w : World} {v : Value} {ps : List (List Nat)} (h : TlsV base w v ps) : RdR w v ps := by
  obtain ⟨vs, h1, h2, h3, -⟩ := h.row
  refine rd_zip (RowV.rd h1) h2 (fun y hy => ⟨?_, (h3 y hy).rd⟩)
  obtain ⟨g, o, c, e, -⟩ := (h3 y hy).len
  exact ⟨_, c, e⟩
theorem LstV.kp {w0 : World} {base : Nat} {w w' : World} {v : Value} {ps : List (List Nat)} {M : Nat → Prop} (h : LstV w0 base w v ps) (k : Kp M w w') (hm : ∀ g, base ≤ g → g < w.heap.size → ¬ M g) : LstV w0 base w' v ps := by
  obtain ⟨vs, h1, h2, h3⟩ := h.row
  exact ⟨vs, RowV.kp h1 k (fun g hg => hm g (RowV.block_ge h1 hg) (RowV.block_lt h1 hg)), h2, h3⟩
theorem LstV.kp3 {w0 : World} {base base' : Nat} {w1 w w' : World} {v : Value} {ps : List (List Nat)} {M : Nat → Prop} (h : LstV w0 base w v ps) (k : Kp M w w') (h1 : LstV w0 base' w1 v ps) (hm : ∀ g, M g → w1.heap.size ≤ g) : LstV w0 base w' v ps := by
  obtain ⟨vs, r, h2, h3⟩ := h.row
  obtain ⟨us, r1, -, -⟩ := h1.row
  exact ⟨vs, RowV.kp r k (fun g hg e => by have := hm g e; have := RowV.block_lt r1 hg; omega), h2, h3⟩
/-- A state's cells. -/
def stL (ep : Int) (sv rv : Value) : List Value := [.int .i64 ep, sv, rv]
def stZ : List Value := [.int .i64 0, .slice none 0 0, .slice none 0 0]
theorem stL_one (ep : Int) (a b : Option Addr) (l m c d : Nat) : ∀ v ∈ stL ep (.slice a l c) (.slice b m d), v.oneCell' = true := by
  intro v hv
  simp [stL] at hv
  rcases hv with rfl | rfl | rfl <;> rfl

set_option maxRecDepth 40000 in
set_option maxHeartbeats 2000000 in
theorem with_at (w0 : World) (ep : Int) (a1 : Option Addr) (n1 c1 : Nat) (rv x : Value) (rs : List (List Nat)) (r : List Nat) (base : Nat) (w : World) (h : LstV w0 base w rv rs) (hx : Inp w0 x r) (hn : rs.length ≤ 1000000) :
    Calls Tryd.prog 20 #[.agg #[.int .i64 ep, .slice a1 n1 c1, rv], x] w fun e w' => ∃ a3 n3 c3, e = .returned (.agg #[.int .i64 ep, .slice a1 n1 c1, .slice a3 n3 c3]) ∧ LstV w0 w.heap.size w' (.slice a3 n3 c3) (rs ++ [r]) ∧ Below w.heap.size w w' := by
  obtain ⟨i0, hi, hz0, hz1, hz2⟩ := info_parts infoTl
  obtain ⟨vs, r1, l1, I1⟩ := h.row
  obtain ⟨ao, cap, e, hc, hno, H⟩ := RowV.rd r1
  subst e
  obtain ⟨⟨ax, cx, rfl⟩, hx2⟩ := hx
  have HX : Hid (Inp w0 (.slice ax r.length cx) r) := ⟨⟨ax, cx, rfl⟩, hx2⟩
  have HH : Hid (∀ i, i < vs.length → ∃ g o a' m' c', ao = some ⟨g, o, none⟩ ∧ (∀ w', Below w.heap.size w w' → w'.cell? ⟨g, o + i, none⟩ = some (.slice a' m' c')) ∧ vs.take (i + 1) = vs.take i ++ [.slice a' m' c']) := fun i hi => by
    obtain ⟨g, o, e1, lt, e2⟩ := H i hi
    have hm : (vs[i], rs[i]'(by omega)) ∈ vs.zip rs := by
      have : (vs.zip rs)[i]? = some (vs[i], rs[i]'(by omega)) := by rw [List.getElem?_zip_eq_some]; exact ⟨List.getElem?_eq_getElem _, List.getElem?_eq_getElem _⟩
      exact List.mem_of_getElem? this
    obtain ⟨a', c', e3⟩ := (I1 _ hm).1
    have e3' : vs[i] = .slice a' (rs[i]'(by omega)).length c' := e3
    refine ⟨g, o, a', (rs[i]'(by omega)).length, c', e1, fun w' hb => ?_, ?_⟩
    · rw [hb.cell (p := ⟨g, o + i, none⟩) lt, e2, e3']
    · rw [List.take_add_one, List.getElem?_eq_getElem hi, e3']; rfl
  have LL : Hid ((vs ++ [Value.slice ax r.length cx]).length = (rs ++ [r]).length ∧ ∀ y ∈ (vs ++ [Value.slice ax r.length cx]).zip (rs ++ [r]), Inp w0 y.1 y.2) := by
    refine ⟨by simp [l1], fun y hy => ?_⟩
    rw [List.zip_append l1] at hy
    rcases List.mem_append.1 hy with h | h
    · exact I1 y h
    · simp at h; subst h; exact HX.out
  have HF : Hid (vs.take vs.length = vs) := List.take_length
  have hL : vs.length ≤ 1000000 := by omega
  clear r1 l1 I1 H hx2 h hn hno
  generalize vs.length = L at *
  have BX : Hid (Blk w.heap.size 49 [.int .i64 ep, .slice a1 n1 c1, .slice ao L cap] ((w.alloc (.cells #[.int .i64 ep, .slice a1 n1 c1, .slice ao L cap] 49)).alloc (.cells #[.int .i64 0, .slice none 0 0, .slice none 0 0] 49)) ∧ Blk (w.heap.size + 1) 49 stZ ((w.alloc (.cells #[.int .i64 ep, .slice a1 n1 c1, .slice ao L cap] 49)).alloc (.cells #[.int .i64 0, .slice none 0 0, .slice none 0 0] 49)) ∧ Below w.heap.size w ((w.alloc (.cells #[.int .i64 ep, .slice a1 n1 c1, .slice ao L cap] 49)).alloc (.cells #[.int .i64 0, .slice none 0 0, .slice none 0 0] 49)) ∧ w.heap.size + 2 ≤ ((w.alloc (.cells #[.int .i64 ep, .slice a1 n1 c1, .slice ao L cap] 49)).alloc (.cells #[.int .i64 0, .slice none 0 0, .slice none 0 0] 49)).heap.size) :=
    ⟨(Blk.new 49 [.int .i64 ep, .slice a1 n1 c1, .slice ao L cap] w).old _, Blk.new2 49 stZ w _, below_trans (below_alloc _ _) (below_alloc _ _), by simp⟩
  go_enter Tryd.func20, Tryd.ntmps20
  go_wp2_with fail
  generalize (w.alloc (.cells #[.int .i64 ep, .slice a1 n1 c1, .slice ao L cap] 49)).alloc (.cells #[.int .i64 0, .slice none 0 0, .slice none 0 0] 49) = W at *
  go_loopw [5, 6] (fun vl vi wr => ∃ k : Nat, vi = .int .i64 (k : Int) ∧ k ≤ L ∧ Hid (RowV 22 (w.heap.size + 2) wr vl (vs.take k)) ∧ Hid (Below w.heap.size w wr ∧ w.heap.size + 2 ≤ wr.heap.size) ∧ Hid (Blk w.heap.size 49 [.int .i64 ep, .slice a1 n1 c1, .slice ao L cap] wr) ∧ Hid (Blk (w.heap.size + 1) 49 stZ wr)) (fun _ vi _ => L - (intOf vi).toNat)
  case atStart => exact ⟨0, rfl, by omega, RowV.nil _ _ _, ⟨BX.out.2.2.1, BX.out.2.2.2⟩, BX.out.1, BX.out.2.1⟩
  case round =>
    clear BX
    obtain ⟨k, rfl, hk, Q1, H3, K1, K2⟩ := hrel
    have c2 := K1.out.cell 2 _ rfl
    have own1 := Q1.out
    have hs1 : w.heap.size + 2 ≤ wr.heap.size := H3.out.2
    have KK : Hid (∀ w2 v', RowV 22 (w.heap.size + 2) w2 v' (vs.take k) → ∀ w3, w2.grownBy w3 v'.ownBlock → Blk w.heap.size 49 [.int .i64 ep, .slice a1 n1 c1, .slice ao L cap] w2 → Blk (w.heap.size + 1) 49 stZ w2 → Blk w.heap.size 49 [.int .i64 ep, .slice a1 n1 c1, .slice ao L cap] w3 ∧ Blk (w.heap.size + 1) 49 stZ w3) := fun w2 v' hr w3 hg b1 b2 => by
      have kp := Kp.of_grown hg
      exact ⟨b1.kp kp (fun e => by have := RowV.block_ge hr e; omega), b2.kp kp (fun e => by have := RowV.block_ge hr e; omega)⟩
    by_cases hlt : (k : Int) < (L : Int)
    · obtain ⟨g, o, a', m', c', rfl, hc', ht⟩ := HH.out k (by omega)
      have e1 := hc' wr H3.out.1
      have l1 : (vs.take k).length + 1 ≤ maxLen := by rw [List.length_take]; unfold maxLen; omega
      have l2 : ((vs.take k).length + 1) * 24 ≤ 140737488355328 := by rw [List.length_take]; omega
      have HT : Hid (vs.take (k + 1) = vs.take k ++ [.slice a' m' c']) := ht
      clear hc' ht HH
      go_wp2_with (at_builtin; refine wpList_pushV rfl (.tmp 14) (.tmp 20) 32 rfl 22 i0 (.slice none 0 0) 24 underTl hi hz0 hz1 hz2 rfl (w.heap.size + 2) _ _ _ rfl rfl own1 hs1 rfl l1 l2 ?_; intro v' w2 hown' hgr)
      have T2 : Hid (RowV 22 (w.heap.size + 2) w2 v' (vs.take (k + 1))) := by show RowV _ _ _ _ _; rw [HT.out]; exact hown'
      have B2 : Hid (Below w.heap.size w w2 ∧ w.heap.size + 2 ≤ w2.heap.size) := ⟨below_grown H3.out.1 own1 (by omega) H3.out.1.size hgr, Nat.le_trans hs1 hgr.size⟩
      have K3 := KK.out _ _ own1 _ hgr K1.out K2.out
      go_roundw
      case rel => exact ⟨k + 1, by go_num, by omega, T2, B2, K3.1, K3.2⟩
      case measure => simp [intOf]; omega
    · obtain rfl : k = L := by omega
      have l1 : (vs.take k).length + 1 ≤ maxLen := by rw [List.length_take]; unfold maxLen; omega
      have l2 : ((vs.take k).length + 1) * 24 ≤ 140737488355328 := by rw [List.length_take]; omega
      clear HH
      go_upto_region 7 with (at_builtin; refine wpList_pushV rfl (.tmp 22) (.tmp 24) 32 rfl 22 i0 (.slice none 0 0) 24 underTl hi hz0 hz1 hz2 rfl (w.heap.size + 2) _ _ _ rfl rfl own1 hs1 rfl l1 l2 ?_; intro v' w2 hown' hgr)
      have T2 : Hid (RowV 22 (w.heap.size + 2) w2 v' (vs ++ [.slice ax r.length cx])) := by show RowV _ _ _ _ _; rw [HF.out] at hown'; exact hown'
      have B2 : Hid (Below w.heap.size w w2) := below_grown H3.out.1 own1 (by omega) H3.out.1.size hgr
      have K3 := KK.out _ _ own1 _ hgr K1.out K2.out
      obtain ⟨a3, c3, e3, -⟩ := (RowV.rd T2.out).len
      subst e3
      have d0 := K3.1.cell 0 _ rfl
      have d1 := K3.1.cell 1 _ rfl
      have K4 : Hid (Blk (w.heap.size + 1) 49 stZ w2) := K3.2
      clear K3 hown' hgr own1 KK K1 K2 c2 Q1 H3
      obtain ⟨n3, hn3⟩ : ∃ n3, (vs ++ [Value.slice ax r.length cx]).length = n3 := ⟨_, rfl⟩
      rw [hn3] at T2 ⊢
      clear hn3
      go_wp2_with ((with_reducible refine at_store ?_); refine step_store rfl 49 _ _ rfl (w.heap.size + 1) 0 49 stZ [.int .i64 ep, .slice a1 n1 c1, .slice a3 n3 c3] rfl rfl K4.out (Nat.le_refl _) rfl (stL_one _ _ _ _ _ _ _) ?_; intro w4 nb g4; have B4 : Hid (Blk (w.heap.size + 1) 49 [.int .i64 ep, .slice a1 n1 c1, .slice a3 n3 c3] w4 ∧ Below w.heap.size w w4 ∧ RowV 22 (w.heap.size + 2) w4 (.slice a3 n3 c3) (vs ++ [.slice ax r.length cx])) := ⟨blk_put (Nat.le_refl _) nb, below_row B2.out g4 (by omega), RowV.kept T2.out g4 (fun g' hg' e' => by injection e' with e'; have := RowV.block_ge T2.out hg'; omega)⟩; clear nb g4)
      refine ret_blk rfl rfl (w.heap.size + 1) 49 [.int .i64 ep, .slice a1 n1 c1, .slice a3 n3 c3] _ rfl B4.out.1 Tryd.underlying49 rfl rfl ?_
      exact ⟨a3, n3, c3, rfl, ⟨_, RowV.mono B4.out.2.2 (by omega), LL.out.1, LL.out.2⟩, B4.out.2.1⟩

set_option maxRecDepth 40000 in
set_option maxHeartbeats 2000000 in
theorem holds_at (ep ep' cut : Int) (sn sn' : List Nat) (rs rs' : List (List Nat)) (a1 a2 a3 a4 : Option Addr) (n1 n2 n3 n4 c1 c2 c3 c4 : Nat) (w : World) (h1 : RdB w (.slice a1 n1 c1) sn) (h2 : RdR w (.slice a2 n2 c2) rs) (h3 : RdB w (.slice a3 n3 c3) sn') (h4 : RdR w (.slice a4 n4 c4) rs') (hs : sn'.length ≤ 1000000000000) (hn : rs'.length ≤ 1000000000) (hr : ∀ x ∈ rs', x.length ≤ 1000000000000) :
    Calls Tryd.prog 22 #[.agg #[.int .i64 ep, .slice a1 n1 c1, .slice a2 n2 c2], .agg #[.int .i64 ep', .slice a3 n3 c3, .slice a4 n4 c4, .int .i64 cut]] w fun e w' => e = .returned (.bool (decide (ep' = ep ∧ sn' = sn ∧ rs' = rs))) ∧ Below w.heap.size w w' := by
  have B0 : Below w.heap.size w ((w.alloc (.cells #[.int .i64 ep, .slice a1 n1 c1, .slice a2 n2 c2] 49)).alloc (.cells #[.int .i64 ep', .slice a3 n3 c3, .slice a4 n4 c4, .int .i64 cut] 34)) := below_trans (below_alloc _ _) (below_alloc _ _)
  have SM : Hid (∀ w', Below w.heap.size w w' → Calls Tryd.prog 17 #[.slice a3 n3 c3, .slice a1 n1 c1] w' fun e w'' => e = .returned (.bool (decide (sn' = sn))) ∧ Below w.heap.size w w'' ∧ ∃ n, w'' = w'.drewN n) := fun w' hb => (jsame_at sn' sn _ _ w' (by omega) (Rd.later h3 hb) (Rd.later h1 hb)).mono fun e w'' ⟨x1, n, x2⟩ => ⟨x1, by rw [x2]; exact below_drewN hb n, n, x2⟩
  have SL : Hid (∀ w', Below w.heap.size w w' → Calls Tryd.prog 18 #[.slice a4 n4 c4, .slice a2 n2 c2] w' fun e w'' => e = .returned (.bool (decide (rs' = rs))) ∧ Below w.heap.size w w'') := fun w' hb => (sameList_at rs' rs _ _ w' hn hr (h4.later hb) (h2.later hb)).mono fun e w'' ⟨x1, n, x2⟩ => ⟨x1, by rw [x2]; exact below_drewN hb n⟩
  have X1 : Hid (Blk w.heap.size 49 [.int .i64 ep, .slice a1 n1 c1, .slice a2 n2 c2] ((w.alloc (.cells #[.int .i64 ep, .slice a1 n1 c1, .slice a2 n2 c2] 49)).alloc (.cells #[.int .i64 ep', .slice a3 n3 c3, .slice a4 n4 c4, .int .i64 cut] 34))) := (Blk.new 49 [.int .i64 ep, .slice a1 n1 c1, .slice a2 n2 c2] w).old _
  have X2 : Hid (Blk (w.heap.size + 1) 34 [.int .i64 ep', .slice a3 n3 c3, .slice a4 n4 c4, .int .i64 cut] ((w.alloc (.cells #[.int .i64 ep, .slice a1 n1 c1, .slice a2 n2 c2] 49)).alloc (.cells #[.int .i64 ep', .slice a3 n3 c3, .slice a4 n4 c4, .int .i64 cut] 34))) := Blk.new2 34 [.int .i64 ep', .slice a3 n3 c3, .slice a4 n4 c4, .int .i64 cut] w _
  have BB : Hid (Below w.heap.size w ((w.alloc (.cells #[.int .i64 ep, .slice a1 n1 c1, .slice a2 n2 c2] 49)).alloc (.cells #[.int .i64 ep', .slice a3 n3 c3, .slice a4 n4 c4, .int .i64 cut] 34))) := B0
  clear h1 h2 h3 h4 hs hn hr B0
  by_cases he : ep' = ep
  · have d0 : (ep' == ep) = true := by rw [he]; simp
    have HE : Hid (ep' = ep) := he
    have P1 : Hid (decide (ep' = ep ∧ sn' = sn ∧ rs' = rs) = (decide (sn' = sn) && decide (rs' = rs))) := by
      show _ = _
      rw [← Bool.decide_and]; exact decide_eq_decide.2 ⟨fun h => h.2, fun h => ⟨he, h⟩⟩
    rw [P1.out]
    generalize decide (sn' = sn) = D1 at *
    generalize decide (rs' = rs) = D2' at *
    clear he P1
    go_enter Tryd.func22, Tryd.ntmps22
    go_wp2_with fail
    generalize (w.alloc (.cells #[.int .i64 ep, .slice a1 n1 c1, .slice a2 n2 c2] 49)).alloc (.cells #[.int .i64 ep', .slice a3 n3 c3, .slice a4 n4 c4, .int .i64 cut] 34) = W at *
    refine (SM.out _ BB.out).mono ?_
    rintro e w1 ⟨rfl, b1, n, hw1⟩
    have B1 : Hid (Below w.heap.size w w1) := b1
    have k1 : Blk w.heap.size 49 [.int .i64 ep, .slice a1 n1 c1, .slice a2 n2 c2] w1 := by rw [hw1]; exact X1.out
    have k2 : Blk (w.heap.size + 1) 34 [.int .i64 ep', .slice a3 n3 c3, .slice a4 n4 c4, .int .i64 cut] w1 := by rw [hw1]; exact X2.out
    have y1 := k1.cell 2 _ rfl
    have y2 := k2.cell 2 _ rfl
    clear hw1 b1 k1 k2 X1 X2 BB SM
    cases D1 with
    | false =>
      go_wp2_with fail
      go_ret
      exact ⟨rfl, B1.out⟩
    | true =>
      go_wp2_with fail
      refine (SL.out _ B1.out).mono ?_
      rintro e w2 ⟨rfl, b2⟩
      have B2 : Hid (Below w.heap.size w w2) := b2
      clear b2
      go_wp2_with fail
      go_ret
      exact ⟨rfl, B2.out⟩
  · have d0 : (ep' == ep) = false := beq_eq_false_iff_ne.2 he
    have HE : Hid (decide (ep' = ep ∧ sn' = sn ∧ rs' = rs) = false) := decide_eq_false (fun h => he h.1)
    rw [HE.out]
    clear he
    go_enter Tryd.func22, Tryd.ntmps22
    go_wp2_with fail
    go_ret
    exact ⟨rfl, BB.out⟩
end Go.Proofs.YtcmfehabcklbpaaDoor

namespace Go.Proofs.YtcmfehabcklbpaaDoor
open Go.RowKit JM

namespace JM
theorem jf_app (ep : Nat) (sn : List Nat) (xs ys : List (List Nat)) : jf ep sn (xs ++ ys) = jf ep sn xs ++ CrcM.join (ys.map rp) := by
  unfold jf; rw [List.map_append, join_app, List.append_assoc]
theorem jf_cut (ep : Nat) (sn : List Nat) (rs : List (List Nat)) (m cut : Nat) (hm : m ≤ rs.length) (h1 : (jf ep sn (rs.take m)).length ≤ cut) (h2 : m < rs.length → cut < (jf ep sn (rs.take (m + 1))).length) (h3 : cut ≤ (jf ep sn rs).length) (hl : ∀ r ∈ rs, r.length < 4194304) :
    ∃ tail, (jf ep sn rs).take cut = jf ep sn (rs.take m) ++ tail ∧ Mute tail ∧ tail.length = cut - (jf ep sn (rs.take m)).length := by
  by_cases hmm : m = rs.length
  · subst hmm
    rw [List.take_length] at h1 ⊢
    exact ⟨[], by rw [List.append_nil, List.take_of_length_le h1], Mute.nil, by simp; omega⟩
  · have hlt : m < rs.length := by omega
    have hr : (rs[m]).length < 4194304 := hl _ (List.getElem_mem _)
    have e0 : rs.take (m + 1) = rs.take m ++ [rs[m]] := by rw [List.take_add_one, List.getElem?_eq_getElem hlt]; rfl
    have e1 : rs = rs.take m ++ (rs[m] :: rs.drop (m + 1)) := by rw [List.getElem_cons_drop, List.take_append_drop]
    have e2 : jf ep sn rs = jf ep sn (rs.take m) ++ (CrcM.enc (rp rs[m]) ++ CrcM.join ((rs.drop (m + 1)).map rp)) := by
      conv => lhs; rw [e1]
      rw [jf_app, List.map_cons, join_cons]
    have h2' := h2 hlt
    rw [e0, jf_push, List.length_append, CrcM.enc_len] at h2'
    have hp : (rp rs[m]).length ≤ 4194304 := by simp [rp]; omega
    refine ⟨(CrcM.enc (rp rs[m])).take (cut - (jf ep sn (rs.take m)).length), ?_, mute_part _ _ hp (by omega), ?_⟩
    · rw [e2, List.take_append, List.take_of_length_le h1, List.take_append_of_le_length (by rw [CrcM.enc_len]; omega)]
    · rw [List.length_take, CrcM.enc_len]; omega
theorem jf_mono (ep : Nat) (sn : List Nat) (rs : List (List Nat)) (m : Nat) : (jf ep sn (rs.take m)).length ≤ (jf ep sn rs).length := by
  conv => rhs; rw [← List.take_append_drop m rs, jf_app, List.length_append]
  omega
theorem jf_head (ep : Nat) (sn : List Nat) (rs : List (List Nat)) (cut : Nat) (h : cut < (jf ep sn []).length) : (jf ep sn rs).take cut = (CrcM.enc (hp ep sn)).take cut ∧ cut < (hp ep sn).length + 8 := by
  have e : (jf ep sn []).length = (hp ep sn).length + 8 := by rw [jf_len, CrcM.enc_len, List.map_nil, join_nil]; simp
  refine ⟨?_, by omega⟩
  unfold jf
  rw [List.take_append_of_le_length (by rw [CrcM.enc_len]; omega)]
end JM

theorem D2_trunc {f : Nat} (hf : f = 0 ∨ f = 1) (x o : List Nat) (wr : Int) {n : Nat} (h : n ≤ x.length) : (D2 f x o wr).cut (f : Int) x.length n = (D2 f (x.take n) o (wr + if x.length = n then 0 else 1), 0) := by
  unfold Dk.cut
  by_cases hn : x.length = n
  · rw [if_pos hn, if_pos hn, Int.add_zero, List.take_of_length_le (by omega)]
  · rw [if_neg hn, if_neg hn]
    have hl : (x.take n).length = n := by rw [List.length_take]; omega
    rcases hf with rfl | rfl
    · show (if (0 : Int) ≠ 0 then _ else if (n : Int) < 0 ∨ (x.length : Int) < (n : Int) then _ else _) = _
      rw [if_neg (by omega), if_neg (by omega)]
      show ((⟨x.take (n : Int).toNat, (n : Int).toNat, o, o.length, [], wr + 1, false⟩ : Dk), (0 : Int)) = ((⟨x.take n, (x.take n).length, o, o.length, [], wr + 1, false⟩ : Dk), 0)
      rw [hl, Int.toNat_natCast]
    · show (if (0 : Int) ≠ 0 then _ else if (n : Int) < 0 ∨ (x.length : Int) < (n : Int) then _ else _) = _
      rw [if_neg (by omega), if_neg (by omega)]
      show ((⟨o, o.length, x.take (n : Int).toNat, (n : Int).toNat, [], wr + 1, false⟩ : Dk), (0 : Int)) = ((⟨o, o.length, x.take n, (x.take n).length, [], wr + 1, false⟩ : Dk), 0)
      rw [hl, Int.toNat_natCast]
theorem load_D2 (x : List Nat) (h : x.length ≤ 16777216) : Dk.load x [] = D2 0 x [] 0 := by
  unfold Dk.load loadL; rw [List.take_of_length_le h]; rfl

/-- Open where nothing is found. -/
theorem open_blank (R : Nat) (S : Nat → Prop) (t : Dk) (w : World) (hdn : t.dn = false) (hn : newest t.b0 t.b1 = none) (h : DkAt R S t w) (hb0 : ∀ b ∈ t.b0, b < 256) (hb1 : ∀ b ∈ t.b1, b < 256) (hT : TabS w) :
    Calls Tryd.prog 12 #[.pointer (some ⟨R, 0, none⟩)] w fun e w' => e = .returned (.tuple #[.pointer none, .agg rcZ.toArray, .int .i64 70]) ∧ Below w.heap.size w w' := by
  have b0 : Below w.heap.size w (w.alloc (.cells rcZ.toArray 34)) := below_alloc _ _
  have nz := Blk.new 34 rcZ w
  have l0 := h.1.l0
  have l1 := h.1.l1
  refine (open_gen R (fun p l k w1 => p = .pointer none ∧ l = rcZ ∧ k = 70 ∧ Below w.heap.size w w1) w ((recovered_blank R S t _ hdn hn (h.below b0) hb0 hb1 (by omega) (by omega) (hT.below b0)).mono ?_)).mono ?_
  · rintro e w1 ⟨rfl, b1⟩
    exact ⟨_, rcZ, 70, rfl, rfl, rcZ_one, nz.below b1, rfl, rfl, rfl, below_trans b0 b1⟩
  · rintro e w' ⟨p, l, k, w1, rfl, ⟨rfl, rfl, rfl, b1⟩, kp⟩
    exact ⟨rfl, Kp.over b1 kp (fun g hg => by omega)⟩
/-- 'v = append(v, y)' on a row of the call's own, and where the row then lies. -/
theorem wpList_pushL {P : Program} {wr : World} {ops : Array Oper} {rest : List Oper} {o : Oper} {a : Act} {Q : Exit → Act → World → Prop} (hgd : o.guard = none) (s x : Operand) (t : TypeId)
    (ho : o.op = .call { callee := .builtin .append, args := #[s, x], argTypes := #[t, t] })
    (e : TypeId) (i : TypeInfo) (z : Value) (by' : Nat) (ht : P.underlying t = some (.slice e)) (hi : P.info? e = some i) (hz : i.zero = some z) (hsize : i.size = 1) (hby : i.bytes = by') (hzc : z.cells.size = 1)
    (base : Nat) (v : Value) (vs : List Value) (y : Value) (hy : y.oneCell' = true) (hs : a.eval s = v) (hown : RowV e base wr v vs) (hsz : base ≤ wr.heap.size)
    (hx : a.eval x = .slice (some ⟨wr.heap.size, 0, none⟩) 1 1) (hl : vs.length + 1 ≤ maxLen) (hl2 : (vs.length + 1) * by' ≤ 140737488355328)
    (h : ∀ v' w', RowV e base w' v' (vs ++ [y]) → wr.grownBy w' v.ownBlock → (∀ g, v'.ownBlock = some g → v.ownBlock = some g ∨ wr.heap.size ≤ g) → wpList P ops Q rest (a.put o.dst v') w') :
    wpList P ops Q (o :: rest) a (wr.alloc (.cells #[y] e)) := by
  have hW : (wr.alloc (.cells #[y] e)).heap.size = wr.heap.size + 1 := by simp
  refine wpList_append_lies _ hgd s x t ho base e i z 1 by' ht hi hz hsize hby hzc (by decide) v vs.length vs hs (World.ownsRow.alloc hown _) ⟨wr.heap.size, 0, none⟩ 1 1 [y] hx rfl ?_ ?_ (by decide) hl hl2 (by omega) (wr.heap.size + 1) hW ?_
  · intro j u hj
    match j, hj with
    | 0, hj => simp at hj; subst hj; simp [Addr.add]
  · intro u hu; simp at hu; subst hu; exact hy
  · intro g cap w' hown' hgrow hg _
    refine h _ w' (by simpa [RowV] using hown') ⟨hgrow.os, hgrow.tape, hgrow.output, Nat.le_trans (by simp) hgrow.size, fun k hk hn => ?_⟩ (fun g' e' => ?_)
    · rw [hgrow.block k (by omega) hn]
      exact (below_alloc wr (.cells #[y] e)).block k hk
    · have : g = g' := by simpa [Value.ownBlock] using e'
      subst this
      rcases hg with h1 | h1
      · exact .inl h1
      · exact .inr (by omega)
end Go.Proofs.YtcmfehabcklbpaaDoor

namespace Go.Proofs.YtcmfehabcklbpaaDoor
open Go.RowKit JM

theorem op_loadJ {P : Program} {ops : Array Oper} {op : Oper} {a : Act} {wr : World} {K : Act → World → Prop} {Q : Exit → Act → World → Prop} {E : Prop} (hgd : op.guard = none) (ty : TypeId) (x : Operand) (ho : op.op = .load ty x)
    (G o : Nat) (hx : a.eval x = .pointer (some ⟨G, o, none⟩)) (cs : List Value) (d : TypeDesc) (hc : wr.rangeAt G o cs)
    (hu : P.underlying ty = some d) (hd : d.isRow = true) (hi : (P.info? ty).map (·.size) = some cs.length)
    (h : K (a.put op.dst (.agg cs.toArray)) wr) : if Region.wanted op (yielded ops a.tmps) = true then Oper.wp P op a wr K Q else E := by
  have hwd : Region.wanted op (yielded ops a.tmps) = true := by simp [Region.wanted, hgd]
  rw [if_pos hwd]
  exact wp_load_mid ty x ho G o hx cs d hc hu hd hi h
theorem step_loadGJ {P : Program} {ops : Array Oper} {rest : List Oper} {op : Oper} {a : Act} {w : World} {Q : Exit → Act → World → Prop} (hw : Region.wanted op (yielded ops a.tmps) = true) (ty : TypeId) (x : Operand) (ho : op.op = .load ty x)
    (G o : Nat) (hx : a.eval x = .pointer (some ⟨G, o, none⟩)) (cs : List Value) (d : TypeDesc) (hc : w.rangeAt G o cs)
    (hu : P.underlying ty = some d) (hd : d.isRow = true) (hi : (P.info? ty).map (·.size) = some cs.length)
    (h : wpList P ops Q rest (a.put op.dst (.agg cs.toArray)) w) : wpList P ops Q (op :: rest) a w :=
  BigFrame.wpList_want hw fun _ hK => wp_load_mid ty x ho G o hx cs d hc hu hd hi (hK _ _ h)
theorem at_loadGJ {P : Program} {ops : Array Oper} {rest : List Oper} {a : Act} {w : World} {Q : Exit → Act → World → Prop} {dst : Option Tmp} (ty : TypeId) {t : TypeId} {x : Operand} {pos : String} {af : Array Edge} {gd : Nat × Bool}
    (h : wpList P ops Q ({ dst := dst, op := .load ty x, type := t, pos := pos, after := af, guard := some gd } :: rest) a w) : wpList P ops Q ({ dst := dst, op := .load ty x, type := t, pos := pos, after := af, guard := some gd } :: rest) a w := h
theorem infoIn : (Tryd.prog.info? 3).map (fun i => (i.zero, i.size, i.bytes)) = some (some (.int .i64 0), 1, 8) := by kernel_rfl
theorem underIn : Tryd.prog.underlying 47 = some (.slice 3) := by kernel_rfl
/-- The bytes of the first records. -/
def lenR (cs : List (List Nat)) (k : Nat) : Nat := ((cs.take k).map List.length).sum
theorem lenR_succ {cs : List (List Nat)} {k : Nat} (h : k < cs.length) : lenR cs (k + 1) = lenR cs k + (cs.getD k []).length := by
  unfold lenR
  rw [List.take_add_one, List.getElem?_eq_getElem h, List.getD_eq_getElem?_getD, List.getElem?_eq_getElem h]
  simp only [Option.toList_some, List.map_append, List.map_cons, List.map_nil, List.sum_append, List.sum_cons, List.sum_nil, Option.getD_some]
  omega
theorem lenR_mono (cs : List (List Nat)) {j k : Nat} (h : j ≤ k) : lenR cs j ≤ lenR cs k := by
  induction k with
  | zero => obtain rfl : j = 0 := by omega
            exact Nat.le_refl _
  | succ k ih =>
    by_cases e : j = k + 1
    · subst e; exact Nat.le_refl _
    · have := ih (by omega)
      by_cases hk : k < cs.length
      · rw [lenR_succ hk]; omega
      · unfold lenR at *
        rw [List.take_of_length_le (by omega : cs.length ≤ k + 1)]
        rw [List.take_of_length_le (by omega : cs.length ≤ k)] at this
        exact this
theorem jf_lenR (bs : List Nat) (cs : List (List Nat)) (k : Nat) (h : k ≤ cs.length) : (jf 1 bs (cs.take k)).length = (jf 1 bs []).length + lenR cs k + 9 * k := by
  induction k with
  | zero => simp [lenR]
  | succ k ih =>
    have hk : k < cs.length := by omega
    have e : cs.take (k + 1) = cs.take k ++ [cs.getD k []] := by rw [List.take_add_one, List.getElem?_eq_getElem hk, List.getD_eq_getElem?_getD, List.getElem?_eq_getElem hk]; rfl
    rw [e, jf_push, List.length_append, CrcM.enc_len, ih (by omega), lenR_succ hk]
    simp [rp]; omega
def EL (X : Nat → Nat) (k : Nat) : List Value := (List.range k).map (fun i => Value.int .i64 (X (i + 1) : Int))
theorem EL_succ (X : Nat → Nat) (k : Nat) : EL X (k + 1) = EL X k ++ [.int .i64 (X (k + 1) : Int)] := by unfold EL; rw [List.range_succ, List.map_append]; rfl
theorem EL_len (X : Nat → Nat) (k : Nat) : (EL X k).length = k := by unfold EL; simp
theorem getD_mem {cs : List (List Nat)} {i : Nat} (h : i < cs.length) : cs.getD i [] ∈ cs := by
  rw [List.getD_eq_getElem?_getD, List.getElem?_eq_getElem h]; exact List.getElem_mem _
/-- What is asked of the file, cut off: what an Open of it finds. -/
theorem open_torn (w0 w : World) (R : Nat) (S : Nat → Prop) (bs : List Nat) (cs : List (List Nat)) (m k : Nat) (hbb : ∀ b ∈ bs, b < 256) (hcb : ∀ r ∈ cs, ∀ b ∈ r, b < 256) (hbl : bs.length ≤ 4096) (hcl : ∀ r ∈ cs, r.length ≤ 4096) (hm : m ≤ cs.length) (h1 : (jf 1 bs (cs.take m)).length ≤ k) (h2 : m < cs.length → k < (jf 1 bs (cs.take (m + 1))).length) (h3 : k ≤ (jf 1 bs cs).length) (hx : (jf 1 bs cs).length ≤ 16777216) (hS : ∀ g, S g → w0.heap.size ≤ g) (hb : Below w0.heap.size w0 w)
    (h : DkAt R S (Dk.load ((jf 1 bs cs).take k) []) w) (hT : TabS w) : Calls Tryd.prog 12 #[.pointer (some ⟨R, 0, none⟩)] w fun e w' => ∃ G a1 c1 a2 c2, e = .returned (.tuple #[.pointer (some ⟨G, 0, none⟩), .agg #[.int .i64 1, .slice a1 bs.length c1, .slice a2 m c2, .int .i64 ((k : Int) - ((jf 1 bs (cs.take m)).length : Int))], .int .i64 0]) ∧ Below w0.heap.size w0 w' ∧ RdB w' (.slice a1 bs.length c1) bs ∧ RdR w' (.slice a2 m c2) (cs.take m) ∧ Kp S w w' := by
  obtain ⟨tail, ht, mt, tl⟩ := jf_cut 1 bs cs m k hm h1 h2 h3 (fun r hr => by have := hcl r hr; omega)
  have hxl : ((jf 1 bs cs).take k).length = k := by rw [List.length_take]; omega
  rw [load_D2 _ (by omega)] at h
  have hxb : ∀ b ∈ (jf 1 bs cs).take k, b < 256 := fun b hb => jf_lt 1 bs cs hbb hcb b (List.mem_of_mem_take hb)
  have hj : Jr (D2 0 ((jf 1 bs cs).take k) [] 0) 0 1 bs (cs.take m) tail := ⟨.inl rfl, by rw [D2_x (.inl rfl)]; exact ht, mt, Old.nil 1, by omega, by omega, hbb, by omega, fun r hr => hcb r (List.mem_of_mem_take hr), fun r hr => by have := hcl r (List.mem_of_mem_take hr); omega, fun b hb => hxb b (by rw [ht]; exact List.mem_append.2 (.inr hb)), fun _ hb => nomatch hb⟩
  have lm : (cs.take m).length = m := by rw [List.length_take]; omega
  refine (open_ok R S _ _ _ 0 1 bs (cs.take m) tail w hj (by rw [D2_wr]; omega) (D2_dn _ _ _ _) (by rw [D2_x (.inl rfl)]; exact D2_trunc (.inl rfl) _ _ _ (by omega)) (by rw [D2_o (.inl rfl)]; exact D2_cuto (f := 0) (.inl rfl) _ _ _) h hT).mono ?_
  rintro e w' ⟨G, sv, rv, S', rfl, h1', h2', h3', h4', h5', h6', h7', h8'⟩
  have rb := h7'.rd
  have rr := h8'.rd
  obtain ⟨g, o, c, rfl, _⟩ := h7'.len
  obtain ⟨a, c', rfl, _⟩ := h8'.len
  rw [lm] at rr
  refine ⟨G, _, c, a, c', ?_, Kp.over hb h5' hS, rb, rr, h5'⟩
  rw [tl, lm, show (((k - (jf 1 bs (cs.take m)).length : Nat)) : Int) = (k : Int) - ((jf 1 bs (cs.take m)).length : Int) by omega]
  rfl
theorem open_torn0 (w0 w : World) (R : Nat) (S : Nat → Prop) (bs : List Nat) (cs : List (List Nat)) (k : Nat) (hbb : ∀ b ∈ bs, b < 256) (hcb : ∀ r ∈ cs, ∀ b ∈ r, b < 256) (hbl : bs.length ≤ 4096) (h1 : k < (jf 1 bs []).length) (hb : Below w0.heap.size w0 w)
    (h : DkAt R S (Dk.load ((jf 1 bs cs).take k) []) w) (hT : TabS w) : Calls Tryd.prog 12 #[.pointer (some ⟨R, 0, none⟩)] w fun e w' => e = .returned (.tuple #[.pointer none, .agg #[.int .i64 0, .slice none 0 0, .slice none 0 0, .int .i64 0], .int .i64 70]) ∧ Below w0.heap.size w0 w' ∧ Below w.heap.size w w' := by
  obtain ⟨e, he⟩ := jf_head 1 bs cs k h1
  have hpl := hp_len 1 bs (by omega) (by omega)
  have hxb : ∀ b ∈ (jf 1 bs cs).take k, b < 256 := fun b hb => jf_lt 1 bs cs hbb hcb b (List.mem_of_mem_take hb)
  have hxl : ((jf 1 bs cs).take k).length ≤ 16777216 := by rw [e, List.length_take, CrcM.enc_len]; omega
  rw [load_D2 _ hxl] at h
  have hn : newest (D2 0 ((jf 1 bs cs).take k) [] 0).b0 (D2 0 ((jf 1 bs cs).take k) [] 0).b1 = none := by
    show newest ((jf 1 bs cs).take k) [] = none
    unfold newest nwS
    rw [e, hdF_part _ _ hpl he, hdF_empty]
  exact (open_blank R S _ w (D2_dn _ _ _ _) hn h hxb (fun _ hb => nomatch hb) hT).mono fun x w' ⟨h1, h2⟩ => ⟨h1, below_trans hb h2, h2⟩

set_option maxRecDepth 100000 in
set_option maxHeartbeats 4000000 in
theorem torn_any (bs : List Nat) (cs : List (List Nat)) (cut : Int) (va vb : Value) (w : World) (h : RdB w va bs) (h' : RdR w vb cs) (hb : bs.length ≤ 140737488355328) (ho : cs.length ≤ 140737488355328) (hd : ∀ r ∈ cs, r.length ≤ 140737488355328) (hbb : ∀ b ∈ bs, b < 256) (hcb : ∀ r ∈ cs, ∀ b ∈ r, b < 256) (hT : TabS w) :
    Calls Tryd.prog 5 #[va, vb, .int .i64 cut] w fun e w' => e = .returned (.bool true) ∧ Below w.heap.size w w' := by
  obtain ⟨i0, hi, hz0, hz1, hz2⟩ := info_parts infoIn
  obtain ⟨av, cv, rfl, -, -⟩ := h.len
  rw [List.length_map] at *
  obtain ⟨ao, cap, rfl, hcap, H⟩ := h'
  have NW : Hid (∀ w', Calls Tryd.prog 8 #[] w' (NewD w' (Dk.load [] []))) := fun w' => new_at w'
  have CP : Hid (∀ (xs : List Nat) v w', xs.length ≤ 100000 → RdB w' v xs → Calls Tryd.prog 10 #[v] w' (NewB w' xs)) := fun xs v w' h1 h2 => jcopied_at xs v w' (by omega) h2
  have TT : Hid (∀ w', Below w.heap.size w w' → TabS w') := fun w' hb => hT.below hb
  have RA : Hid (∀ w', Below w.heap.size w w' → RdB w' (.slice av bs.length cv) bs) := fun w' hb => Rd.later h hb
  have BB : Hid ((∀ b ∈ bs, b < 256) ∧ ∀ r ∈ cs, ∀ b ∈ r, b < 256) := ⟨hbb, hcb⟩
  have HH : Hid (∀ i, i < cs.length → ∃ g o a' c', ao = some ⟨g, o, none⟩ ∧ (∀ w', Below w.heap.size w w' → w'.cell? ⟨g, o + i, none⟩ = some (.slice a' (cs.getD i []).length c')) ∧ Inp w (.slice a' (cs.getD i []).length c') (cs.getD i []) ∧ lenR cs (i + 1) = lenR cs i + (cs.getD i []).length ∧ (cs.getD i []).length ≤ 140737488355328 ∧ cs.take (i + 1) = cs.take i ++ [cs.getD i []] ∧ g < w.heap.size) := fun i hi => by
    obtain ⟨g, o, a', c', e1, lt, e2, e3⟩ := H i hi
    exact ⟨g, o, a', c', e1, fun w' hb => (hb.cell (p := ⟨g, o + i, none⟩) lt).trans e2, ⟨⟨a', c', rfl⟩, fun w' hb => Rd.later e3 hb⟩, lenR_succ hi, hd _ (getD_mem hi), by rw [List.take_add_one, List.getElem?_eq_getElem hi, List.getD_eq_getElem?_getD, List.getElem?_eq_getElem hi]; rfl, lt⟩
  have MN : Hid (∀ j, j ≤ cs.length → lenR cs j ≤ lenR cs cs.length) := fun j hj => lenR_mono cs hj
  have Z0 : Hid (lenR cs 0 = 0) := rfl
  have CL : Hid (bs.length + cs.length + lenR cs cs.length ≤ 4096 → bs.length ≤ 4096 ∧ ∀ r ∈ cs, r.length ≤ 4096) := fun hf => by
    refine ⟨by omega, fun r hr => ?_⟩
    obtain ⟨i, hi, rfl⟩ := List.getElem_of_mem hr
    have h1 := lenR_succ hi
    have h2 := lenR_mono cs (j := i + 1) (k := cs.length) hi
    rw [List.getD_eq_getElem?_getD, List.getElem?_eq_getElem hi] at h1
    simp at h1
    omega
  have TL : Hid (cs.take cs.length = cs) := List.take_length
  have JLN : Hid (∀ k, k ≤ cs.length → (jf 1 bs (cs.take k)).length = (jf 1 bs []).length + lenR cs k + 9 * k) := fun k hk => jf_lenR bs cs k hk
  have JL1 : Hid ((jf 1 bs []).length ≤ 19 + bs.length ∧ 9 ≤ (jf 1 bs []).length) := ⟨jf_len1 1 bs (by omega), by rw [jf_len, CrcM.enc_len]; simp [hp]; omega⟩
  have OT : Hid (bs.length + cs.length + lenR cs cs.length ≤ 4096 → ∀ R S m k w', m ≤ cs.length → (jf 1 bs (cs.take m)).length ≤ k → (m < cs.length → k < (jf 1 bs (cs.take (m + 1))).length) → k ≤ (jf 1 bs (cs.take cs.length)).length → (∀ g, S g → w.heap.size ≤ g) → Below w.heap.size w w' → DkAt R S (Dk.load ((jf 1 bs (cs.take cs.length)).take k) []) w' → Calls Tryd.prog 12 #[.pointer (some ⟨R, 0, none⟩)] w' fun e w'' => ∃ G a1 c1 a2 c2, e = .returned (.tuple #[.pointer (some ⟨G, 0, none⟩), .agg #[.int .i64 1, .slice a1 bs.length c1, .slice a2 m c2, .int .i64 ((k : Int) - ((jf 1 bs (cs.take m)).length : Int))], .int .i64 0]) ∧ Below w.heap.size w w'' ∧ RdB w'' (.slice a1 bs.length c1) bs ∧ RdR w'' (.slice a2 m c2) (cs.take m) ∧ Kp S w' w'') := fun hf R S m k w' h1 h2 h3 h4 h5 h6 h7 => by
    have cl := CL.out hf
    have jl := JLN.out cs.length (Nat.le_refl _)
    rw [TL.out] at h4 h7 jl
    exact open_torn w w' R S bs cs m k hbb hcb cl.1 cl.2 h1 h2 h3 h4 (by have := JL1.out; omega) h5 h6 h7 (TT.out w' h6)
  have OT0 : Hid (bs.length + cs.length + lenR cs cs.length ≤ 4096 → ∀ R S k w', k < (jf 1 bs []).length → Below w.heap.size w w' → DkAt R S (Dk.load ((jf 1 bs (cs.take cs.length)).take k) []) w' → Calls Tryd.prog 12 #[.pointer (some ⟨R, 0, none⟩)] w' fun e w'' => e = .returned (.tuple #[.pointer none, .agg #[.int .i64 0, .slice none 0 0, .slice none 0 0, .int .i64 0], .int .i64 70]) ∧ Below w.heap.size w w'' ∧ Below w'.heap.size w' w'') := fun hf R S k w' h1 h6 h7 => by
    rw [TL.out] at h7
    exact open_torn0 w w' R S bs cs k hbb hcb (CL.out hf).1 h1 h6 h7 (TT.out w' h6)
  have GM : Hid (∀ i, i < cs.length → cs.getD i [] ∈ cs) := fun i hi => getD_mem hi
  have CK : Hid (∀ (P : Nat) (w1 w2 : World), Kp (fun g => g = P) w1 w2 → ∀ g i, g < w1.heap.size → g ≠ P → w2.cell? ⟨g, i, none⟩ = w1.cell? ⟨g, i, none⟩) := fun P w1 w2 k g i hg hn => World.cell?_of_block (k.block g hg hn)
  have CAP : Hid (∀ (w1 : World) (a : Option Addr) (n c : Nat) (xs : List Nat), RdB w1 (.slice a n c) xs → n ≤ c) := fun w1 a n c xs h => by
    obtain ⟨ao, cap, e, h1, _⟩ := h.len
    injection e with e1 e2 e3
    omega
  have RL2 : Hid (∀ (m : Nat) (r : List Nat), r ∈ cs.take m → bs.length + cs.length + lenR cs cs.length ≤ 4096 → r.length ≤ 4096) := fun m r hr hf => (CL.out hf).2 r (List.mem_of_mem_take hr)
  have RLL : Hid (∀ (m : Nat) (r : List Nat), r ∈ cs.take m → bs.length + cs.length + lenR cs cs.length ≤ 4096 → r.length ≤ 4096) := fun m r hr hf => (CL.out hf).2 r (List.mem_of_mem_take hr)
  have TKL : Hid (∀ m, m ≤ cs.length → (cs.take m).length = m) := fun m hm => by rw [List.length_take]; omega
  obtain ⟨X, hX⟩ : ∃ X : Nat → Nat, ∀ i, X i = (jf 1 bs (cs.take i)).length := ⟨_, fun _ => rfl⟩
  have HX : Hid (∀ i, X i = (jf 1 bs (cs.take i)).length) := hX
  clear h H hbb hcb hT hd hX
  generalize hB : bs.length = B at *
  have HBL : Hid (bs.length = B) := hB
  clear hB
  generalize cs.length = L at *
  go_enter Tryd.func5, Tryd.ntmps5
  go_wp2_with fail
  go_loopw [7, 8] (fun vn vk wr => ∃ (k n : Nat), wr = w ∧ vn = .int .i64 (n : Int) ∧ vk = .int .i64 (k : Int) ∧ k ≤ L ∧ Hid (n = B + L + lenR cs k) ∧ Hid (0 < k → n ≤ 4096) ∧ n ≤ 281474976710656) (fun _ vk _ => L - (intOf vk).toNat)
  case atStart => exact ⟨0, B + L, rfl, by go_num, rfl, by omega, by have := Z0.out; show _ = _; omega, fun h => by omega, by omega⟩
  case round =>
    obtain ⟨k, n, hw, rfl, rfl, hk, HN, HM, hn⟩ := hrel
    obtain rfl : w = wr := hw.symm
    by_cases hlt : (k : Int) < (L : Int)
    · obtain ⟨g, o, a', c', rfl, c4, -, hm, hmm, -, -⟩ := HH.out k (by omega)
      have c4' := c4 w (Below.refl _ _)
      generalize (cs.getD k []).length = m at *
      have HE : Hid (lenR cs (k + 1) = lenR cs k + m) := hm
      clear hm c4 CP TT RA BB NW OT OT0 CL JLN JL1 RLL TKL TL HH HX HBL
      by_cases h4 : (4096 : Int) < (n : Int) + (m : Int)
      · have d4 : decide ((4096 : Int) < (n : Int) + (m : Int)) = true := decide_eq_true h4
        go_wp2_with fail
        go_ret
        exact ⟨rfl, Below.refl _ _⟩
      · have d4 : decide ((4096 : Int) < (n : Int) + (m : Int)) = false := decide_eq_false h4
        go_wp2_with fail
        go_roundw
        case rel => exact ⟨k + 1, n + m, (by first | rfl | trivial), by go_num, by go_num, by omega, by have := HE.out; have := HN.out; show _ = _; omega, fun _ => by omega, by omega⟩
        case measure => simp [intOf]; omega
    · obtain rfl : L = k := by omega
      by_cases h4 : (4096 : Int) < (n : Int)
      · have d4 : decide ((4096 : Int) < (n : Int)) = true := decide_eq_true h4
        have N1 : Hid (Calls Tryd.prog 8 #[] w fun e w' => ∃ R, e = .returned (.pointer (some ⟨R, 0, none⟩)) ∧ Below w.heap.size w w') := (NW.out w).mono fun e w' ⟨R, S, h1, _, _, h2⟩ => ⟨R, h1, h2⟩
        clear CP TT RA BB NW OT OT0 CL JLN JL1 RLL TKL TL HH HX HBL
        go_wp2_with fail
        refine N1.out.mono ?_
        rintro e w1 ⟨R, rfl, b1⟩
        have B1 : Hid (Below w.heap.size w w1) := b1
        clear b1
        go_wp2_with fail
        go_ret
        exact ⟨rfl, B1.out⟩
      · have d4 : decide ((4096 : Int) < (n : Int)) = false := decide_eq_false h4
        have FF : Hid (B + L + lenR cs L ≤ 4096) := by have := HN.out; show _ ≤ _; omega
        have hb4 : B ≤ 4096 := by have := FF.out; omega
        have hL4 : L ≤ 4096 := by have := FF.out; omega
        have N1 : Hid (Calls Tryd.prog 8 #[] w (NewD w (Dk.load [] []))) := NW.out w
        clear HN HM NW
        have CLB : Hid (bs.length = B ∧ bs.length ≤ 4096) := ⟨HBL.out, by rw [HBL.out]; exact hb4⟩
        go_wp2_with fail
        refine N1.out.mono ?_
        rintro e w1 ⟨R, S1, rfl, d1, s1, b1⟩
        have D1 : Hid (DkAt R S1 (Dk.load [] []) w1 ∧ (∀ g, S1 g → w.heap.size ≤ g) ∧ Below w.heap.size w w1) := ⟨d1, s1, b1⟩
        have C1 : Hid (Calls Tryd.prog 10 #[.slice av B cv] w1 (NewB w1 bs)) := CP.out bs _ w1 (by have := CLB.out; omega) (RA.out w1 b1)
        clear d1 s1 b1 N1
        go_wp2_with fail
        refine C1.out.mono ?_
        rintro e w2 ⟨v2, rfl, r2, b2⟩
        obtain ⟨a2, c2, rfl, -, -⟩ := (RowV.rd r2).len
        rw [List.length_map] at r2 ⊢
        have F2 : Hid (Calls Tryd.prog 9 #[.pointer (some ⟨R, 0, none⟩), .slice a2 bs.length c2] w2 fun e w' => e = .returned (.int .i64 0) ∧ ∃ S', DkAt R S' (D2 0 (jf 1 bs []) [] 2) w' ∧ (∀ g, S' g → w.heap.size ≤ g) ∧ Below w.heap.size w w') := jl_format bs a2 _ c2 (D1.out.1.below b2) D1.out.2.1 (below_trans D1.out.2.2 b2) BB.out.1 CLB.out.2 (RowV.rd r2) (TT.out w2 (below_trans D1.out.2.2 b2))
        clear r2 b2 C1 D1
        go_wp2_with fail
        refine F2.out.mono ?_
        rintro e w3 ⟨rfl, S3, d3, s3, b3⟩
        have O3 : Hid (Calls Tryd.prog 12 #[.pointer (some ⟨R, 0, none⟩)] w3 fun e w' => ∃ G a1 n1 c1 a2 n2 c2 S', e = .returned (.tuple #[.pointer (some ⟨G, 0, none⟩), .agg #[.int .i64 1, .slice a1 n1 c1, .slice a2 n2 c2, .int .i64 0], .int .i64 0]) ∧ JL w R G S' 0 1 bs [] [] 2 w') := (jl_first bs d3 s3 b3 BB.out.1 CLB.out.2 (TT.out w3 b3)).mono fun e w' ⟨G, sv, rv, S', h1, h2, h3, h4, _⟩ => by
          obtain ⟨g, o, c, rfl, _⟩ := h3.len
          obtain ⟨a, c', rfl, _⟩ := h4.len
          exact ⟨G, _, _, _, _, _, _, S', h1, h2⟩
        clear d3 s3 b3 F2
        go_wp2_with fail
        refine O3.out.mono ?_
        rintro e w4 ⟨J, a1, n1, c1, a2', n2, c2', S4, rfl, j4⟩
        have J4 : Hid (JL w R J S4 0 1 bs [] [] 2 w4) := j4
        clear j4 O3
        go_upto_region 14 with ((with_reducible refine at_store ?_); refine step_store rfl 34 _ _ rfl w4.heap.size 0 34 rcZ [.int .i64 1, .slice a1 n1 c1, .slice a2' n2 c2', .int .i64 0] rfl rfl (Blk.new 34 rcZ w4) (Nat.le_refl _) rfl (rcL_one _ _ _ _ _ _ _ _) ?_; intro w5 nb g5; have J5 : Hid (JL w R J S4 0 1 bs [] [] 2 w5) := J4.out.later (below_row (below_alloc _ _) g5 (Nat.le_refl _)); clear nb g5 J4)
        generalize w4.heap.size = P11 at *
        have U5 : Hid (Calls Tryd.prog 19 #[.pointer (some ⟨R, 0, none⟩), .int .i64 0] w5 fun e w' => ∃ a c, e = .returned (.tuple #[.slice a (X 0) c, .int .i64 0]) ∧ RdB w' (.slice a (X 0) c) (jf 1 bs (cs.take 0)) ∧ Below w5.heap.size w5 w') := by
          have := durable_at R S4 _ w5 0 J5.out.d
          rw [D2_durable] at this
          refine this.mono ?_
          rintro e w' ⟨a, c, rfl, r, b⟩
          have e0 : (jf 1 bs []).length = X 0 := by rw [HX.out 0]; rfl
          refine ⟨a, c, by show _ = _; rw [← e0], ?_, b⟩
          rw [← e0]; exact RowV.rd r
        go_wp2_with fail
        refine U5.out.mono ?_
        rintro e w6 ⟨af, cf, rfl, rf, b6⟩
        have J6 : Hid (JL w R J S4 0 1 bs (cs.take 0) [] (2 + 2 * ((0 : Nat) : Int)) w6) := J5.out.later b6
        have R6 : Hid (RdB w6 (.slice af (X 0) cf) (jf 1 bs (cs.take 0))) := rf
        clear b6 rf U5 J5
        go_wp2_with fail

        have XN : Hid (∀ j, j < L → X (j + 1) = X j + (cs.getD j []).length + 9) := fun j hj => by
          obtain ⟨-, -, -, -, -, -, -, h1, -, -, -⟩ := HH.out j hj
          have h2 := JLN.out j (by omega)
          have h3 := JLN.out (j + 1) (by omega)
          rw [HX.out, HX.out]; omega
        have XB : Hid (∀ j, j ≤ L → X j ≤ 50000) := fun j hj => by
          have h2 := JLN.out j hj
          have h3 := MN.out j hj
          have h4 := JL1.out
          have h5 := FF.out
          rw [HX.out]; omega
        go_loopw [13, 16, 17] (fun vf ve vi wr => ∃ (k : Nat) (S : Nat → Prop) (a : Option Addr) (c : Nat), vf = .slice a (X k) c ∧ vi = .int .i64 (k : Int) ∧ k ≤ L ∧ Hid (JL w R J S 0 1 bs (cs.take k) [] (2 + 2 * (k : Int)) wr) ∧ Hid (RdB wr (.slice a (X k) c) (jf 1 bs (cs.take k))) ∧ Hid (RowV 3 w.heap.size wr ve (EL X k)) ∧ Hid (∀ g, ve.ownBlock = some g → ¬ S g ∧ g ≠ J)) (fun _ _ vi _ => L - (intOf vi).toNat)
        case atStart => exact ⟨0, S4, af, cf, rfl, rfl, by omega, J6.out, R6.out, RowV.nil _ _ _, fun g hg => by simp [Value.ownBlock] at hg⟩
        case round =>
          clear J6 R6
          obtain ⟨k, S, a, c, rfl, rfl, hk, JK, RK, EK, SK⟩ := hrel
          by_cases hlt : (k : Int) < (L : Int)
          · obtain ⟨g, o, a', c', rfl, hce, hin, -, hmm, ht, -⟩ := HH.out k (by omega)
            have e1 := hce wr JK.out.b
            have hXk := XN.out k (by omega)
            have hXb := XB.out (k + 1) (by omega)
            have RR : Hid (RdB wr (.slice a' (cs.getD k []).length c') (cs.getD k [])) := hin.2 wr JK.out.b
            have RY : Hid ((∀ b ∈ cs.getD k [], b < 256) ∧ (cs.getD k []).length ≤ 4096) := ⟨BB.out.2 _ (GM.out k (by omega)), (CL.out FF.out).2 _ (GM.out k (by omega))⟩
            have HT : Hid (cs.take (k + 1) = cs.take k ++ [cs.getD k []]) := ht
            have HXK : Hid (X (k + 1) = X k + (cs.getD k []).length + 9 ∧ X (k + 1) ≤ 50000) := ⟨hXk, hXb⟩
            have C1 : Hid (Calls Tryd.prog 10 #[.slice a' (cs.getD k []).length c'] wr (NewB wr (cs.getD k []))) := CP.out _ _ wr (by have := RY.out; omega) RR.out
            have TK : Hid ((cs.take k).length ≤ 100000) := by have := TKL.out k hk; show _ ≤ _; omega
            clear hce hin hmm ht hXk hXb RK CP OT OT0 RLL HH RA
            generalize cs.getD k [] = ds at *
            go_wp2_with fail
            refine C1.out.mono ?_
            rintro e w2 ⟨v2, rfl, r2, b2⟩
            obtain ⟨a2, c2, rfl, -, -⟩ := (RowV.rd r2).len
            rw [List.length_map] at r2 ⊢
            have A2 : Hid (Calls Tryd.prog 13 #[.pointer (some ⟨J, 0, none⟩), .slice a2 ds.length c2] w2 fun e w' => e = .returned (.int .i64 0) ∧ ∃ S', JL w R J S' 0 1 bs (cs.take (k + 1)) [] (2 + 2 * ((k + 1 : Nat) : Int)) w' ∧ JX J S S' w2 w') := by
              have := jl_appendx (JK.out.later b2) ⟨by omega, by omega⟩ (by have := TK.out; omega) ds a2 _ c2 RY.out.1 RY.out.2 (by have := HXK.out; have := HX.out k; have := RY.out.2; omega) (RowV.rd r2) (TT.out w2 (below_trans JK.out.b b2))
              rw [← HT.out] at this
              rw [show (2 + 2 * ((k + 1 : Nat) : Int)) = 2 + 2 * (k : Int) + 2 by omega]
              exact this
            have E2 : Hid (RowV 3 w.heap.size w2 u16 (EL X k)) := RowV.later EK.out b2
            have SB : Hid (∀ g, u16.ownBlock = some g → g < w2.heap.size) := fun g hg => RowV.block_lt E2.out hg
            clear r2 b2 C1 RR JK EK
            go_wp2_with fail
            refine A2.out.mono ?_
            rintro e w3 ⟨rfl, S3, j3, x3⟩
            have J3 : Hid (JL w R J S3 0 1 bs (cs.take (k + 1)) [] (2 + 2 * ((k + 1 : Nat) : Int)) w3) := j3
            have E3 : Hid (RowV 3 w.heap.size w3 u16 (EL X k)) := RowV.kp E2.out x3.2 (fun g hg hs => by
              have := SK.out g hg
              rcases hs with hs | hs
              · exact this.1 hs
              · exact this.2 hs)
            have K3 : Hid (∀ g, u16.ownBlock = some g → ¬ S3 g ∧ g ≠ J) := fun g hg => ⟨fun hs => (x3.1 g hs).elim (SK.out g hg).1 (fun h => by have := SB.out g hg; omega), (SK.out g hg).2⟩
            have U3 : Hid (Calls Tryd.prog 19 #[.pointer (some ⟨R, 0, none⟩), .int .i64 0] w3 fun e w' => ∃ a c, e = .returned (.tuple #[.slice a (X (k + 1)) c, .int .i64 0]) ∧ RdB w' (.slice a (X (k + 1)) c) (jf 1 bs (cs.take (k + 1))) ∧ Below w3.heap.size w3 w' ∧ ∀ g, (Value.slice a (X (k + 1)) c).ownBlock = some g → w3.heap.size ≤ g) := by
              have := durable_at R S3 _ w3 0 j3.d
              rw [D2_durable] at this
              refine this.mono ?_
              rintro e w' ⟨a, c, rfl, r, b⟩
              have e0 : (jf 1 bs (cs.take (k + 1))).length = X (k + 1) := (HX.out _).symm
              refine ⟨a, c, by show _ = _; rw [← e0], by rw [← e0]; exact RowV.rd r, b, fun g hg => ?_⟩
              rw [← e0] at hg
              exact RowV.block_ge r hg
            clear j3 x3 A2 E2 SB SK
            go_wp2_with fail
            refine U3.out.mono ?_
            rintro e w4 ⟨a4, c4, rfl, r4, b4, g4⟩
            have J4 : Hid (JL w R J S3 0 1 bs (cs.take (k + 1)) [] (2 + 2 * ((k + 1 : Nat) : Int)) w4) := J3.out.later b4
            have own4 : RowV 3 w.heap.size w4 u16 (EL X k) := RowV.later E3.out b4
            have R4 : Hid (RdB w4 (.slice a4 (X (k + 1)) c4) (jf 1 bs (cs.take (k + 1)))) := r4
            have G4 : Hid (∀ g, (Value.slice a4 (X (k + 1)) c4).ownBlock = some g → u16.ownBlock ≠ some g) := fun g hg e => by have := g4 g hg; have := RowV.block_lt E3.out e; omega
            have hs4 : w.heap.size ≤ w4.heap.size := J4.out.b.size
            have l1 : (EL X k).length + 1 ≤ maxLen := by rw [EL_len]; unfold maxLen; omega
            have l2 : ((EL X k).length + 1) * 8 ≤ 140737488355328 := by rw [EL_len]; omega
            have LTJ : Hid (J < w4.heap.size ∧ ∀ g, S3 g → g < w4.heap.size) := ⟨J4.out.j.lt, dkAt_size J4.out.d⟩
            clear r4 b4 g4 U3 J3 E3
            go_wp2_with (at_builtin; refine wpList_pushL rfl (.tmp 98) (.tmp 101) 47 rfl 3 i0 (.int .i64 0) 8 underIn hi hz0 hz1 hz2 rfl w.heap.size _ _ _ rfl rfl own4 hs4 rfl l1 l2 ?_; intro v' w5 hown' hgr hli)
            have E5 : Hid (RowV 3 w.heap.size w5 v' (EL X (k + 1))) := by show RowV _ _ _ _ _; rw [EL_succ]; exact hown'
            have R5 : Hid (RdB w5 (.slice a4 (X (k + 1)) c4) (jf 1 bs (cs.take (k + 1)))) := Rd.grown R4.out hgr G4.out
            have KP : Kp (fun g => u16.ownBlock = some g) w4 w5 := Kp.of_grown hgr
            have J5 : Hid (JL w R J S3 0 1 bs (cs.take (k + 1)) [] (2 + 2 * ((k + 1 : Nat) : Int)) w5) := ⟨J4.out.d.kp KP (fun g hg e => (K3.out g e).1 hg), J4.out.j.kp KP (fun e => (K3.out J e).2 rfl), J4.out.n, J4.out.sS, J4.out.sJ, Kp.over J4.out.b KP (fun g e => RowV.block_ge own4 e), J4.out.jb⟩
            have K5 : Hid (∀ g, v'.ownBlock = some g → ¬ S3 g ∧ g ≠ J) := fun g hg => by
              rcases hli g hg with h | h
              · exact K3.out g h
              · exact ⟨fun hs => by have := LTJ.out.2 g hs; omega, fun e => by have := LTJ.out.1; omega⟩
            clear hown' hgr own4 R4 J4 K3 G4 KP hli
            go_roundw
            case rel => exact ⟨k + 1, S3, a4, c4, rfl, by go_num, by omega, J5, R5, E5, K5⟩
            case measure => simp [intOf]; omega
          · obtain rfl : L = k := by omega
            have JKB : Hid (Below w.heap.size w wr) := JK.out.b
            have xL := XB.out L (by omega)
            clear JK SK
            go_upto_region 24 with fail
            go_cut [110] from 103 to 110 (fun v wx => v = .bool (decide (cut < 0 ∨ (X L : Int) < cut)) ∧ wx = wr)
            case first =>
              by_cases h1 : cut < 0
              · have q1 : decide (cut < 0) = true := decide_eq_true h1
                go_wp2_with fail
                go_meet
                exact ⟨by rw [decide_eq_true (p := cut < 0 ∨ (X L : Int) < cut) (.inl h1)], rfl⟩
              · have q1 : decide (cut < 0) = false := decide_eq_false h1
                by_cases h2 : (X L : Int) < cut
                · have q2 : decide ((X L : Int) < cut) = true := decide_eq_true h2
                  go_wp2_with fail
                  go_meet
                  exact ⟨by rw [decide_eq_true (p := cut < 0 ∨ (X L : Int) < cut) (.inr h2)], rfl⟩
                · have q2 : decide ((X L : Int) < cut) = false := decide_eq_false h2
                  go_wp2_with fail
                  go_meet
                  exact ⟨by rw [decide_eq_false (p := cut < 0 ∨ (X L : Int) < cut) (by omega)], rfl⟩
            case rest =>
            obtain ⟨rfl, hwc⟩ := hcut
            have hwc := hwc.symm
            subst hwc
            obtain ⟨K, hK⟩ : ∃ K : Nat, K = if cut < 0 ∨ (X L : Int) < cut then X L else cut.toNat := ⟨_, rfl⟩
            have HKL : Hid (K ≤ X L ∧ (cut < 0 ∨ (X L : Int) < cut → (X L : Int) = (K : Int)) ∧ (¬ (cut < 0 ∨ (X L : Int) < cut) → cut = (K : Int))) := by
              by_cases hc : cut < 0 ∨ (X L : Int) < cut
              · rw [if_pos hc] at hK; exact ⟨by omega, fun _ => by omega, fun h => absurd hc h⟩
              · rw [if_neg hc] at hK; exact ⟨by omega, fun h => absurd h hc, fun _ => by omega⟩
            clear hK
            go_upto_if 110 with fail
            go_cut [2] from 103 to 112 (fun v wx => v = .int .i64 (K : Int) ∧ wx = wr)
            case first =>
              by_cases hc : cut < 0 ∨ (X L : Int) < cut
              · have q1 : decide (cut < 0 ∨ (X L : Int) < cut) = true := decide_eq_true hc
                have q2 : Hid ((X L : Int) = (K : Int)) := HKL.out.2.1 hc
                rw [q1]
                clear hc q1
                go_wp2_with fail
                go_meet
                exact ⟨congrArg (Value.int .i64) q2.out, rfl⟩
              · have q1 : decide (cut < 0 ∨ (X L : Int) < cut) = false := decide_eq_false hc
                have q2 : Hid (cut = (K : Int)) := HKL.out.2.2 hc
                rw [q1]
                clear hc q1
                go_wp2_with fail
                go_meet
                exact ⟨congrArg (Value.int .i64) q2.out, rfl⟩
            case rest =>
            obtain ⟨rfl, hwc⟩ := hcut
            have hwc := hwc.symm
            subst hwc
            have hKX : K ≤ X L := HKL.out.1
            clear HKL
            go_upto_region 27 with ((with_reducible refine at_store ?_); refine step_store rfl 49 _ _ rfl wr.heap.size 0 49 stZ [.int .i64 1, .slice av B cv, .slice none 0 0] rfl rfl (Blk.new 49 stZ wr) (Nat.le_refl _) rfl (stL_one _ _ _ _ _ _ _) ?_; intro W1 nb g1; have BX : Hid (Blk wr.heap.size 49 [.int .i64 1, .slice av B cv, .slice none 0 0] W1 ∧ Below wr.heap.size wr W1) := ⟨blk_put (Nat.le_refl _) nb, below_row (below_alloc _ _) g1 (Nat.le_refl _)⟩; clear nb g1)
            have RW : Hid (RdB W1 (.slice a (X L) c) (jf 1 bs (cs.take L)) ∧ ∀ g, (Value.slice a (X L) c).ownBlock = some g → 0 < X L → g < wr.heap.size) := ⟨Rd.later RK.out BX.out.2, fun g hg h0 => Rd.block RK.out (by rw [List.length_map, ← HX.out]; exact h0) hg⟩
            have EW : Hid (RowV 3 w.heap.size W1 u16 (EL X L) ∧ ∀ g, u16.ownBlock = some g → g < wr.heap.size) := ⟨RowV.later EK.out BX.out.2, fun g hg => RowV.block_lt EK.out hg⟩
            have BW1 : Hid (Below w.heap.size w W1 ∧ w.heap.size ≤ wr.heap.size) := ⟨below_trans JKB.out BX.out.2, JKB.out.size⟩
            obtain ⟨P18, hP⟩ : ∃ P, wr.heap.size = P := ⟨_, rfl⟩
            rw [hP] at BX RW EW BW1 ⊢
            have X0 : Hid (0 < X 0 ∧ ∀ i, i ≤ L → X 0 ≤ X i) := ⟨by have := JL1.out; rw [HX.out 0]; show 0 < (jf 1 bs []).length; omega, fun i hi => by
              have h1 := JLN.out 0 (by omega)
              have h2 := JLN.out i hi
              have := Z0.out
              rw [HX.out 0, HX.out i]; omega⟩
            clear hP RK EK JKB
            obtain ⟨ae, ce, hae, -, -⟩ := (RowV.rd EW.out.1).len
            subst hae
            have ELC : Hid (∀ i, i < L → ∃ ge, ae = some ⟨ge, 0, none⟩ ∧ ge < P18 ∧ W1.cell? ⟨ge, i, none⟩ = some (.int .i64 (X (i + 1) : Int))) := fun i hi => by
              obtain ⟨ge, c', e1, -, h2⟩ := RowV.own EW.out.1 (by rw [EL_len]; omega)
              have e1' : ae = some ⟨ge, 0, none⟩ := by injection e1
              refine ⟨ge, e1', EW.out.2 ge (by rw [e1']; rfl), ?_⟩
              obtain ⟨ao2, cap2, e2, -, -, H2⟩ := RowV.rd EW.out.1
              obtain ⟨g2, o2, e3, -, h3⟩ := H2 i (by rw [EL_len]; exact hi)
              have e4 : ae = some ⟨g2, o2, none⟩ := by injection e2 with e2 _ _; rw [e2, e3]
              rw [e1'] at e4
              injection e4 with e4
              injection e4 with e5 e6
              subst e5 e6
              rw [Nat.zero_add] at h3
              rw [h3]
              simp [EL]
            clear EW
            rw [EL_len]
            go_wp2_with fail
            go_loopw [19, 20] (fun vg vi wr => ∃ (k : Nat) (a3 : Option Addr) (n3 c3 : Nat), vg = .int .i64 (X k : Int) ∧ vi = .int .i64 (k : Int) ∧ k ≤ L ∧ Hid (X k ≤ K ∨ k = 0) ∧ Hid (Blk P18 49 [.int .i64 1, .slice av B cv, .slice a3 n3 c3] wr) ∧ Hid (LstV w w.heap.size wr (.slice a3 n3 c3) (cs.take k)) ∧ Hid (Kp (fun g => g = P18) W1 wr)) (fun _ vi _ => L - (intOf vi).toNat)
            case atStart => exact ⟨0, none, 0, 0, rfl, rfl, by omega, .inr rfl, BX.out.1, LstV.nil _ _ _, Kp.refl _ _⟩
            case round =>
              obtain ⟨k, a3, n3, c3, rfl, rfl, hk, HKK, KB, LK, KW⟩ := hrel
              have BW : Hid (Below w.heap.size w wr) := Kp.over BW1.out.1 KW.out (fun g hg => by have := BW1.out.2; omega)
              have HLT : Hid (P18 < wr.heap.size) := KB.out.lt
              by_cases hlt : (k : Int) < (L : Int)
              · obtain ⟨ge, hge, lge, cge⟩ := ELC.out k (by omega)
                subst hge
                have cE : wr.cell? ⟨ge, k, none⟩ = some (.int .i64 (X (k + 1) : Int)) := (CK.out _ _ _ KW.out ge k (by have := BX.out.1.lt; omega) (by omega)).trans cge
                by_cases hx : (X (k + 1) : Int) ≤ (K : Int)
                · have dx : decide ((X (k + 1) : Int) ≤ (K : Int)) = true := decide_eq_true hx
                  obtain ⟨g, o, a', c', rfl, hce, hin, -, hmm, ht, lg⟩ := HH.out k (by omega)
                  have e1 : wr.drew.cell? ⟨g, o + k, none⟩ = some (.slice a' (cs.getD k []).length c') := hce wr.drew (Below.drew BW.out)
                  have HE : Hid (∀ w', Below wr.heap.size wr w' → w'.cell? ⟨g, o + k, none⟩ = some (.slice a' (cs.getD k []).length c')) := fun w' hb => hce w' (below_trans BW.out hb)
                  have HE2 : Hid (∀ w', Kp (fun g => g = P18) wr w' → w'.cell? ⟨g, o + k, none⟩ = some (.slice a' (cs.getD k []).length c')) := fun w' hk => hce w' (Kp.over BW.out hk (fun g hg => by have := BW1.out.2; omega))
                  have WT : Hid ((∀ w', Below wr.heap.size wr w' → Calls Tryd.prog 20 #[.agg #[.int .i64 1, .slice av B cv, .slice a3 n3 c3], .slice a' (cs.getD k []).length c'] w' fun e w'' => ∃ a3' n3' c3', e = .returned (.agg #[.int .i64 1, .slice av B cv, .slice a3' n3' c3']) ∧ LstV w w'.heap.size w'' (.slice a3' n3' c3') (cs.take k ++ [cs.getD k []]) ∧ Below w'.heap.size w' w'') ∧ ∀ w2 v, LstV w wr.heap.size w2 v (cs.take k ++ [cs.getD k []]) → LstV w wr.heap.size w2 v (cs.take (k + 1))) := ⟨fun w' hb => with_at w 1 av B cv _ _ (cs.take k) (cs.getD k []) _ w' (LK.out.later hb) hin (by have := TKL.out k (by omega); omega), fun w2 v h => by rw [ht]; exact h⟩
                  generalize (cs.getD k []).length = m' at *
                  clear hce hin hmm ht lg OT OT0 CP HH RLL cge
                  go_upto_region 31 with fail
                  refine wp_region_held_drew (S := fun w' => w'.cell? ⟨g, o + k, none⟩ = some (.slice a' m' c')) (by kernel_rfl) (e1) (fun hH => ?_)
                  refine wpAnyH_take (i := 1) (oi := { dst := some 131, op := Op.move (Operand.tmp 1), type := 32, pos := "outright.go:193", after := #[], guard := none }) (v := .slice (some ⟨g, o, none⟩) L cap) rfl (by kernel_rfl) (by kernel_rfl) (by kernel_rfl) (fun _ _ _ h => h) (Or.inl ⟨by rfl, fun w' hs => by go_simp⟩) hH ?_
                  try simp only [Act.put, List.setIfInBounds_toArray, List.set_cons_zero, List.set_cons_succ]
                  refine wpAnyH_take (i := 2) (oi := { dst := some 132, op := Op.move (Operand.tmp 20), type := 3, pos := "outright.go:193", after := #[], guard := none }) (v := .int .i64 (k : Int)) rfl (by kernel_rfl) (by kernel_rfl) (by kernel_rfl) (fun _ _ _ h => h) (Or.inl ⟨by rfl, fun w' hs => by go_simp⟩) hH ?_
                  try simp only [Act.put, List.setIfInBounds_toArray, List.set_cons_zero, List.set_cons_succ]
                  refine wpAnyH_take (i := 3) (oi := { dst := some 133, op := Op.indexAddr 32 (Operand.tmp 131) (Operand.tmp 132), type := 0, pos := "outright.go:193", after := #[{ on := 1, ground := Ground.data }, { on := 2, ground := Ground.data }], guard := none }) (v := .pointer (some ⟨g, o + k, none⟩)) rfl (by kernel_rfl) (by kernel_rfl) (by kernel_rfl) (fun _ _ _ h => h) (Or.inl ⟨by rfl, fun w' hs => by go_simp⟩) hH ?_
                  try simp only [Act.put, List.setIfInBounds_toArray, List.set_cons_zero, List.set_cons_succ]
                  refine wpAnyH_take (i := 4) (oi := { dst := some 134, op := Op.load 22 (Operand.tmp 133), type := 22, pos := "outright.go:193", after := #[{ on := 3, ground := Ground.data }], guard := none }) (v := .slice a' m' c') rfl (by kernel_rfl) (by kernel_rfl) (by kernel_rfl) (fun _ _ _ h => h) (Or.inl ⟨by rfl, fun w' hs => by have c := hs; go_simp⟩) hH ?_
                  try simp only [Act.put, List.setIfInBounds_toArray, List.set_cons_zero, List.set_cons_succ]
                  refine wpAnyH_ready (rs := [0]) (by kernel_rfl) (by simp) ?_
                  refine AllReadyH.cons (o := { dst := some 130, op := Op.load 49 (Operand.tmp 18), type := 49, pos := "outright.go:193", after := #[], guard := none }) rfl (fun K hK => ?_) AllReadyH.nil
                  refine op_loadJ rfl 49 _ rfl P18 0 rfl [.int .i64 1, .slice av B cv, .slice a3 n3 c3] _ ((KB.out.below (Below.drew (Below.refl _ _))).all) Tryd.underlying49 rfl rfl ?_
                  refine hK.out _ _ hH (fun hH => ?_)
                  try simp only [Act.put, List.setIfInBounds_toArray, List.set_cons_zero, List.set_cons_succ]
                  refine wpAnyH_ready (rs := [5]) (by kernel_rfl) (by simp) ?_
                  refine AllReadyH.cons (o := { dst := some 135, op := Op.call { callee := Callee.value (Operand.func 20), args := #[Operand.tmp 130, Operand.tmp 134], argTypes := #[49, 22] }, type := 49, pos := "outright.go:193", after := #[{ on := 0, ground := Ground.data }, { on := 4, ground := Ground.data }], guard := none }) rfl (fun K hK => ?_) AllReadyH.nil
                  go_simp
                  refine (WT.out.1 _ (Below.drew (Below.refl _ _))).mono ?_
                  rintro e w2 ⟨a4, n4, c4, rfl, l4, b4⟩
                  have B4 : Hid (Below wr.heap.size wr w2) := below_trans (Below.drew (Below.refl _ _)) b4
                  have L4 : Hid (LstV w wr.heap.size w2 (.slice a4 n4 c4) (cs.take (k + 1))) := WT.out.2 _ _ l4
                  have K4 : Hid (Blk P18 49 [.int .i64 1, .slice av B cv, .slice a3 n3 c3] w2) := KB.out.below B4.out
                  clear l4 b4
                  refine hK.out _ _ (HE.out w2 B4.out) (fun hH => ?_)
                  try simp only [Act.put, List.setIfInBounds_toArray, List.set_cons_zero, List.set_cons_succ]
                  refine wpAnyH_ready (rs := [6]) (by kernel_rfl) (by simp) ?_
                  refine AllReadyH.cons (o := { dst := none, op := Op.store 49 (Operand.tmp 18) (Operand.tmp 135), type := 0, pos := "outright.go:193", after := #[{ on := 5, ground := Ground.data }, { on := 5, ground := Ground.chain }, { on := 0, ground := Ground.phase }, { on := 1, ground := Ground.phase }, { on := 2, ground := Ground.phase }, { on := 3, ground := Ground.phase }, { on := 4, ground := Ground.phase }, { on := 5, ground := Ground.phase }], guard := none }) rfl (fun K hK => ?_) AllReadyH.nil
                  refine op_putJ (zs := [.int .i64 1, .slice av B cv, .slice a3 n3 c3]) [.int .i64 1, .slice av B cv, .slice a4 n4 c4] rfl rfl (stL_one _ _ _ _ _ _ _) rfl _ _ rfl P18 rfl rfl K4.out ?_
                  intro w5 b5 g5
                  have B5 : Hid (Blk P18 49 [.int .i64 1, .slice av B cv, .slice a4 n4 c4] w5) := b5
                  have KP : Hid (Kp (fun g => g = P18) wr w5) := (Kp.of_below B4.out (fun g => g = P18)).trans (Kp.of_grown g5) (fun g _ h => by injection h with h; exact h.symm)
                  have L5 : Hid (LstV w w.heap.size w5 (.slice a4 n4 c4) (cs.take (k + 1))) := ((L4.out.kp (Kp.of_grown g5) (fun g h1 h2 e => by injection e with e; have := HLT.out; omega))).mono BW.out.size
                  refine hK.out _ _ (HE2.out w5 KP.out) (fun hH => ?_)
                  try simp only [Act.put]
                  refine wpAnyH_done (by kernel_rfl) ?_ _
                  clear hH hK B4 L4 K4 b5 g5
                  have cE5 : w5.cell? ⟨ge, k, none⟩ = some (.int .i64 (X (k + 1) : Int)) := (CK.out _ _ _ KP.out ge k (by have := HLT.out; omega) (by omega)).trans cE
                  have KW5 : Hid (Kp (fun g => g = P18) W1 w5) := KW.out.trans KP.out (fun g _ h => h)
                  clear cE WT HE HE2 KB LK KP e1
                  go_wp2_with fail
                  go_roundw
                  case rel => exact ⟨k + 1, a4, n4, c4, rfl, by go_num, by omega, .inl (by omega), B5, L5, KW5⟩
                  case measure => simp [intOf]; omega
                · have dx : decide ((X (k + 1) : Int) ≤ (K : Int)) = false := decide_eq_false hx
                  have HEND : Hid (k = L ∨ K < X (k + 1)) := .inr (by omega)
                  clear cge lge
                  have hcp : K ≤ c := by have := CAP.out _ _ _ _ _ RW.out.1; omega
                  have RF : Hid (RdB wr (.slice a K c) ((jf 1 bs (cs.take L)).take K)) := by
                    have h1 : RdB wr (.slice a (X L) c) (jf 1 bs (cs.take L)) := Rd.kp RW.out.1 KW.out (fun g hg e => by have := RW.out.2 g hg (by have := X0.out; have := this.2 L (Nat.le_refl _); omega); omega)
                    have := Rd.cut h1 hKX
                    rw [← List.map_take] at this
                    exact this
                  have FLN : Hid (((jf 1 bs (cs.take L)).take K).length ≤ 100000) := by show _ ≤ _; rw [List.length_take]; omega
                  have CC : Hid (Calls Tryd.prog 10 #[.slice a K c] wr (NewB wr ((jf 1 bs (cs.take L)).take K))) := CP.out _ _ wr FLN.out RF.out
                  have hxk := XB.out k hk
                  clear ELC RW CP HH XN
                  go_wp2_with fail
                  refine CC.out.mono ?_
                  rintro e w2 ⟨v2, rfl, r2, b2⟩
                  have LD : Hid (Calls Tryd.prog 21 #[v2, .slice none 0 0] w2 (NewD w2 (Dk.load ((jf 1 bs (cs.take L)).take K) []))) := load_at _ [] v2 _ w2 (by have := FLN.out; omega) (by simp) (RowV.rd r2) ⟨none, 0, rfl, Nat.le_refl _, fun _ => rfl, fun i hi => by simp at hi⟩
                  have B2 : Hid (Below wr.heap.size wr w2) := b2
                  clear r2 b2 CC RF
                  go_wp2_with fail
                  refine LD.out.mono ?_
                  rintro e w3 ⟨R2, S2, rfl, d3, s3, b3⟩
                  have B3 : Hid (Below wr.heap.size wr w3) := below_trans B2.out b3
                  have S3 : Hid (∀ g, S2 g → wr.heap.size ≤ g) := fun g hg => Nat.le_trans B2.out.size (s3 g hg)
                  have D3 : Hid (DkAt R2 S2 (Dk.load ((jf 1 bs (cs.take L)).take K) []) w3) := d3
                  clear d3 s3 b3 LD B2
                  by_cases hh : (K : Int) < (X 0 : Int)
                  · have dh : decide ((K : Int) < (X 0 : Int)) = true := decide_eq_true hh
                    have O3 := OT0.out FF.out R2 S2 K w3 (by have := HX.out 0; rw [List.take_zero] at this; omega) (below_trans BW.out B3.out) D3.out
                    have O3' : Hid (Calls Tryd.prog 12 #[.pointer (some ⟨R2, 0, none⟩)] w3 fun e w'' => e = .returned (.tuple #[.pointer none, .agg #[.int .i64 0, .slice none 0 0, .slice none 0 0, .int .i64 0], .int .i64 70]) ∧ Below w.heap.size w w'' ∧ Below w3.heap.size w3 w'') := O3
                    clear O3 OT OT0 RLL
                    go_wp2_with fail
                    refine O3'.out.mono ?_
                    rintro e w4 ⟨rfl, b4, b4'⟩
                    have B4 : Hid (Below w.heap.size w w4 ∧ Below w3.heap.size w3 w4) := ⟨b4, b4'⟩
                    clear b4 b4' O3'
                    go_upto_region 37 with ((with_reducible refine at_store ?_); refine step_store rfl 34 _ _ rfl w4.heap.size 0 34 rcZ rcZ rfl rfl (Blk.new 34 rcZ w4) (Nat.le_refl _) rfl rcZ_one ?_; intro w5 nb g5; have B5 : Hid (Below w.heap.size w w5 ∧ Below w3.heap.size w3 w5) := ⟨below_trans B4.out.1 (below_row (below_alloc _ _) g5 (Nat.le_refl _)), below_trans B4.out.2 (below_row (below_alloc _ _) g5 (Nat.le_refl _))⟩; clear nb g5 B4)
                    have W5 : Hid (Calls Tryd.prog 11 #[.pointer (some ⟨R2, 0, none⟩)] w5 fun e w' => e = .returned (.int .i64 0) ∧ w5 = w') := (writes_at R2 S2 _ w5 (D3.out.below B5.out.2)).mono fun e w' ⟨h1, h2⟩ => ⟨h1, h2.symm⟩
                    go_wp2_with fail
                    refine W5.out.mono ?_
                    rintro e w' ⟨rfl, rfl⟩
                    go_wp2_with fail
                    go_ret
                    exact ⟨rfl, B5.out.1⟩
                  · have dh : decide ((K : Int) < (X 0 : Int)) = false := decide_eq_false hh
                    have O3' : Hid (Calls Tryd.prog 12 #[.pointer (some ⟨R2, 0, none⟩)] w3 fun e w'' => ∃ G a1 c1 a2 c2, e = .returned (.tuple #[.pointer (some ⟨G, 0, none⟩), .agg #[.int .i64 1, .slice a1 B c1, .slice a2 k c2, .int .i64 ((K : Int) - (X k : Int))], .int .i64 0]) ∧ Below w.heap.size w w'' ∧ RdB w'' (.slice a1 B c1) bs ∧ RdR w'' (.slice a2 k c2) (cs.take k) ∧ Kp S2 w3 w'') := by
                      have hk0 : X k ≤ K := by
                        rcases HKK.out with h | h
                        · exact h
                        · rw [h]; omega
                      have := OT.out FF.out R2 S2 k K w3 hk (by rw [← HX.out]; exact hk0) (fun hkL => by rw [← HX.out]; rcases HEND.out with h | h; omega; exact h) (by rw [← HX.out]; exact hKX) (fun g hg => Nat.le_trans BW.out.size (S3.out g hg)) (below_trans BW.out B3.out) D3.out
                      rw [HX.out k]
                      exact this
                    clear OT OT0 RLL
                    go_wp2_with fail
                    refine O3'.out.mono ?_
                    rintro e w4 ⟨G, a1, c1, a2, c2, rfl, b4, rb4, rr4, k4⟩
                    have B4 : Hid (Below w.heap.size w w4 ∧ Blk P18 49 [.int .i64 1, .slice av B cv, .slice a3 n3 c3] w4 ∧ LstV w w.heap.size w4 (.slice a3 n3 c3) (cs.take k) ∧ RdB w4 (.slice a1 B c1) bs ∧ RdR w4 (.slice a2 k c2) (cs.take k)) := ⟨b4, (KB.out.below B3.out).kp k4 (fun h => by have := S3.out _ h; have := HLT.out; omega), (LK.out.later B3.out).kp3 k4 LK.out (fun g hg => S3.out g hg), rb4, rr4⟩
                    clear b4 rb4 rr4 k4 O3' B3
                    go_upto_region 37 with ((with_reducible refine at_store ?_); refine step_store rfl 34 _ _ rfl w4.heap.size 0 34 rcZ [.int .i64 1, .slice a1 B c1, .slice a2 k c2, .int .i64 ((K : Int) - (X k : Int))] rfl rfl (Blk.new 34 rcZ w4) (Nat.le_refl _) rfl (rcL_one _ _ _ _ _ _ _ _) ?_; intro w5 nb g5; have B5 : Hid (Blk w4.heap.size 34 [.int .i64 1, .slice a1 B c1, .slice a2 k c2, .int .i64 ((K : Int) - (X k : Int))] w5 ∧ Below w4.heap.size w4 w5) := ⟨blk_put (Nat.le_refl _) nb, below_row (below_alloc _ _) g5 (Nat.le_refl _)⟩; clear nb g5)
                    have Q5 : Hid (Blk P18 49 [.int .i64 1, .slice av B cv, .slice a3 n3 c3] w5) := B4.out.2.1.below B5.out.2
                    have H5 : Hid (Calls Tryd.prog 22 #[.agg #[.int .i64 1, .slice av B cv, .slice a3 n3 c3], .agg #[.int .i64 1, .slice a1 B c1, .slice a2 k c2, .int .i64 ((K : Int) - (X k : Int))]] w5 fun e w' => e = .returned (.bool true) ∧ Below w5.heap.size w5 w') := by
                      have bw5 := below_trans B4.out.1 B5.out.2
                      have := holds_at 1 1 ((K : Int) - (X k : Int)) bs bs (cs.take k) (cs.take k) av a3 a1 a2 B n3 B k cv c3 c1 c2 w5 (RA.out w5 bw5) ((B4.out.2.2.1.later B5.out.2).rd bw5) (Rd.later B4.out.2.2.2.1 B5.out.2) (B4.out.2.2.2.2.later B5.out.2) (by have := CLB.out; omega) (by have := TKL.out k hk; omega) (fun r hr => by have := RL2.out k r hr FF.out; omega)
                      rw [decide_eq_true ⟨rfl, rfl, rfl⟩] at this
                      exact this
                    have BF : Hid (Below w.heap.size w w5) := below_trans B4.out.1 B5.out.2
                    have K5 : Hid (Blk w4.heap.size 34 [.int .i64 1, .slice a1 B c1, .slice a2 k c2, .int .i64 ((K : Int) - (X k : Int))] w5) := B5.out.1
                    clear B4 B5 KB LK
                    obtain ⟨P23, hP23⟩ : ∃ P, w4.heap.size = P := ⟨_, rfl⟩
                    rw [hP23] at K5 ⊢
                    clear hP23
                    go_wp2_with (first
                      | ((with_reducible refine at_loadGJ 49 ?_); refine step_loadGJ rfl 49 _ rfl P18 0 rfl [.int .i64 1, .slice av B cv, .slice a3 n3 c3] _ Q5.out.all Tryd.underlying49 rfl rfl ?_)
                      | ((with_reducible refine at_loadGJ 34 ?_); refine step_loadGJ rfl 34 _ rfl P23 0 rfl [.int .i64 1, .slice a1 B c1, .slice a2 k c2, .int .i64 ((K : Int) - (X k : Int))] _ K5.out.all Tryd.underlying34 rfl rfl ?_))
                    refine H5.out.mono ?_
                    rintro e w6 ⟨rfl, b6⟩
                    have B6 : Hid (Below w.heap.size w w6) := below_trans BF.out b6
                    have c6 := (K5.out.below b6).cell 3 _ rfl
                    clear b6 BF H5 Q5 K5
                    go_wp2_with fail
                    go_ret
                    exact ⟨rfl, B6.out⟩
              · have HEND : Hid (k = L ∨ K < X (k + 1)) := .inl (by omega)
                have hcp : K ≤ c := by have := CAP.out _ _ _ _ _ RW.out.1; omega
                have RF : Hid (RdB wr (.slice a K c) ((jf 1 bs (cs.take L)).take K)) := by
                  have h1 : RdB wr (.slice a (X L) c) (jf 1 bs (cs.take L)) := Rd.kp RW.out.1 KW.out (fun g hg e => by have := RW.out.2 g hg (by have := X0.out; have := this.2 L (Nat.le_refl _); omega); omega)
                  have := Rd.cut h1 hKX
                  rw [← List.map_take] at this
                  exact this
                have FLN : Hid (((jf 1 bs (cs.take L)).take K).length ≤ 100000) := by show _ ≤ _; rw [List.length_take]; omega
                have CC : Hid (Calls Tryd.prog 10 #[.slice a K c] wr (NewB wr ((jf 1 bs (cs.take L)).take K))) := CP.out _ _ wr FLN.out RF.out
                have hxk := XB.out k hk
                clear ELC RW CP HH XN
                go_wp2_with fail
                refine CC.out.mono ?_
                rintro e w2 ⟨v2, rfl, r2, b2⟩
                have LD : Hid (Calls Tryd.prog 21 #[v2, .slice none 0 0] w2 (NewD w2 (Dk.load ((jf 1 bs (cs.take L)).take K) []))) := load_at _ [] v2 _ w2 (by have := FLN.out; omega) (by simp) (RowV.rd r2) ⟨none, 0, rfl, Nat.le_refl _, fun _ => rfl, fun i hi => by simp at hi⟩
                have B2 : Hid (Below wr.heap.size wr w2) := b2
                clear r2 b2 CC RF
                go_wp2_with fail
                refine LD.out.mono ?_
                rintro e w3 ⟨R2, S2, rfl, d3, s3, b3⟩
                have B3 : Hid (Below wr.heap.size wr w3) := below_trans B2.out b3
                have S3 : Hid (∀ g, S2 g → wr.heap.size ≤ g) := fun g hg => Nat.le_trans B2.out.size (s3 g hg)
                have D3 : Hid (DkAt R2 S2 (Dk.load ((jf 1 bs (cs.take L)).take K) []) w3) := d3
                clear d3 s3 b3 LD B2
                by_cases hh : (K : Int) < (X 0 : Int)
                · have dh : decide ((K : Int) < (X 0 : Int)) = true := decide_eq_true hh
                  have O3 := OT0.out FF.out R2 S2 K w3 (by have := HX.out 0; rw [List.take_zero] at this; omega) (below_trans BW.out B3.out) D3.out
                  have O3' : Hid (Calls Tryd.prog 12 #[.pointer (some ⟨R2, 0, none⟩)] w3 fun e w'' => e = .returned (.tuple #[.pointer none, .agg #[.int .i64 0, .slice none 0 0, .slice none 0 0, .int .i64 0], .int .i64 70]) ∧ Below w.heap.size w w'' ∧ Below w3.heap.size w3 w'') := O3
                  clear O3 OT OT0 RLL
                  go_wp2_with fail
                  refine O3'.out.mono ?_
                  rintro e w4 ⟨rfl, b4, b4'⟩
                  have B4 : Hid (Below w.heap.size w w4 ∧ Below w3.heap.size w3 w4) := ⟨b4, b4'⟩
                  clear b4 b4' O3'
                  go_upto_region 37 with ((with_reducible refine at_store ?_); refine step_store rfl 34 _ _ rfl w4.heap.size 0 34 rcZ rcZ rfl rfl (Blk.new 34 rcZ w4) (Nat.le_refl _) rfl rcZ_one ?_; intro w5 nb g5; have B5 : Hid (Below w.heap.size w w5 ∧ Below w3.heap.size w3 w5) := ⟨below_trans B4.out.1 (below_row (below_alloc _ _) g5 (Nat.le_refl _)), below_trans B4.out.2 (below_row (below_alloc _ _) g5 (Nat.le_refl _))⟩; clear nb g5 B4)
                  have W5 : Hid (Calls Tryd.prog 11 #[.pointer (some ⟨R2, 0, none⟩)] w5 fun e w' => e = .returned (.int .i64 0) ∧ w5 = w') := (writes_at R2 S2 _ w5 (D3.out.below B5.out.2)).mono fun e w' ⟨h1, h2⟩ => ⟨h1, h2.symm⟩
                  go_wp2_with fail
                  refine W5.out.mono ?_
                  rintro e w' ⟨rfl, rfl⟩
                  go_wp2_with fail
                  go_ret
                  exact ⟨rfl, B5.out.1⟩
                · have dh : decide ((K : Int) < (X 0 : Int)) = false := decide_eq_false hh
                  have O3' : Hid (Calls Tryd.prog 12 #[.pointer (some ⟨R2, 0, none⟩)] w3 fun e w'' => ∃ G a1 c1 a2 c2, e = .returned (.tuple #[.pointer (some ⟨G, 0, none⟩), .agg #[.int .i64 1, .slice a1 B c1, .slice a2 k c2, .int .i64 ((K : Int) - (X k : Int))], .int .i64 0]) ∧ Below w.heap.size w w'' ∧ RdB w'' (.slice a1 B c1) bs ∧ RdR w'' (.slice a2 k c2) (cs.take k) ∧ Kp S2 w3 w'') := by
                    have hk0 : X k ≤ K := by
                      rcases HKK.out with h | h
                      · exact h
                      · rw [h]; omega
                    have := OT.out FF.out R2 S2 k K w3 hk (by rw [← HX.out]; exact hk0) (fun hkL => by rw [← HX.out]; rcases HEND.out with h | h; omega; exact h) (by rw [← HX.out]; exact hKX) (fun g hg => Nat.le_trans BW.out.size (S3.out g hg)) (below_trans BW.out B3.out) D3.out
                    rw [HX.out k]
                    exact this
                  clear OT OT0 RLL
                  go_wp2_with fail
                  refine O3'.out.mono ?_
                  rintro e w4 ⟨G, a1, c1, a2, c2, rfl, b4, rb4, rr4, k4⟩
                  have B4 : Hid (Below w.heap.size w w4 ∧ Blk P18 49 [.int .i64 1, .slice av B cv, .slice a3 n3 c3] w4 ∧ LstV w w.heap.size w4 (.slice a3 n3 c3) (cs.take k) ∧ RdB w4 (.slice a1 B c1) bs ∧ RdR w4 (.slice a2 k c2) (cs.take k)) := ⟨b4, (KB.out.below B3.out).kp k4 (fun h => by have := S3.out _ h; have := HLT.out; omega), (LK.out.later B3.out).kp3 k4 LK.out (fun g hg => S3.out g hg), rb4, rr4⟩
                  clear b4 rb4 rr4 k4 O3' B3
                  go_upto_region 37 with ((with_reducible refine at_store ?_); refine step_store rfl 34 _ _ rfl w4.heap.size 0 34 rcZ [.int .i64 1, .slice a1 B c1, .slice a2 k c2, .int .i64 ((K : Int) - (X k : Int))] rfl rfl (Blk.new 34 rcZ w4) (Nat.le_refl _) rfl (rcL_one _ _ _ _ _ _ _ _) ?_; intro w5 nb g5; have B5 : Hid (Blk w4.heap.size 34 [.int .i64 1, .slice a1 B c1, .slice a2 k c2, .int .i64 ((K : Int) - (X k : Int))] w5 ∧ Below w4.heap.size w4 w5) := ⟨blk_put (Nat.le_refl _) nb, below_row (below_alloc _ _) g5 (Nat.le_refl _)⟩; clear nb g5)
                  have Q5 : Hid (Blk P18 49 [.int .i64 1, .slice av B cv, .slice a3 n3 c3] w5) := B4.out.2.1.below B5.out.2
                  have H5 : Hid (Calls Tryd.prog 22 #[.agg #[.int .i64 1, .slice av B cv, .slice a3 n3 c3], .agg #[.int .i64 1, .slice a1 B c1, .slice a2 k c2, .int .i64 ((K : Int) - (X k : Int))]] w5 fun e w' => e = .returned (.bool true) ∧ Below w5.heap.size w5 w') := by
                    have bw5 := below_trans B4.out.1 B5.out.2
                    have := holds_at 1 1 ((K : Int) - (X k : Int)) bs bs (cs.take k) (cs.take k) av a3 a1 a2 B n3 B k cv c3 c1 c2 w5 (RA.out w5 bw5) ((B4.out.2.2.1.later B5.out.2).rd bw5) (Rd.later B4.out.2.2.2.1 B5.out.2) (B4.out.2.2.2.2.later B5.out.2) (by have := CLB.out; omega) (by have := TKL.out k hk; omega) (fun r hr => by have := RL2.out k r hr FF.out; omega)
                    rw [decide_eq_true ⟨rfl, rfl, rfl⟩] at this
                    exact this
                  have BF : Hid (Below w.heap.size w w5) := below_trans B4.out.1 B5.out.2
                  have K5 : Hid (Blk w4.heap.size 34 [.int .i64 1, .slice a1 B c1, .slice a2 k c2, .int .i64 ((K : Int) - (X k : Int))] w5) := B5.out.1
                  clear B4 B5 KB LK
                  obtain ⟨P23, hP23⟩ : ∃ P, w4.heap.size = P := ⟨_, rfl⟩
                  rw [hP23] at K5 ⊢
                  clear hP23
                  go_wp2_with (first
                    | ((with_reducible refine at_loadGJ 49 ?_); refine step_loadGJ rfl 49 _ rfl P18 0 rfl [.int .i64 1, .slice av B cv, .slice a3 n3 c3] _ Q5.out.all Tryd.underlying49 rfl rfl ?_)
                    | ((with_reducible refine at_loadGJ 34 ?_); refine step_loadGJ rfl 34 _ rfl P23 0 rfl [.int .i64 1, .slice a1 B c1, .slice a2 k c2, .int .i64 ((K : Int) - (X k : Int))] _ K5.out.all Tryd.underlying34 rfl rfl ?_))
                  refine H5.out.mono ?_
                  rintro e w6 ⟨rfl, b6⟩
                  have B6 : Hid (Below w.heap.size w w6) := below_trans BF.out b6
                  have c6 := (K5.out.below b6).cell 3 _ rfl
                  clear b6 BF H5 Q5 K5
                  go_wp2_with fail
                  go_ret
                  exact ⟨rfl, B6.out⟩
end Go.Proofs.YtcmfehabcklbpaaDoor
