/-
  tlv's Out, and what its calls leave as it was.
-/
import Derived.Test.YtkahkkcbigifiaaDoorTvOutP
namespace Go.Proofs.YtkahkkcbigifiaaDoor
open Go.RowKit
set_option linter.unusedVariables false
set_option linter.unusedSimpArgs false

variable {P : Program} {ops : Array Oper} {rest : List Oper} {dst : Option Tmp} {ty t t2 : TypeId} {pos : String} {after : Array Edge} {a : Act} {w : World} {Q : Exit → Act → World → Prop} {K : Act → World → Prop} {x y z : Operand} {gd : Option (Nat × Bool)}
/-- An Out at p whose bytes are u. -/
def OutQ (p : Nat) (w : World) (u : Value) (l : List Nat) : Prop := RowAt w p #[u] 100 ∧ Own (p + 1) 5 w u l
theorem OutQ.p {p : Nat} {w : World} {u : Value} {l : List Nat} (h : OutQ p w u l) : OutP p w l := ⟨u, h.1, h.2⟩
theorem OutQ.bl {p : Nat} {w W : World} {u : Value} {l : List Nat} (h : OutQ p w u l) (hb : Below w.heap.size w W) : OutQ p W u l := ⟨h.1.bl hb, h.2.bl hb⟩
/-- Nothing is changed but p and u's own block. -/
structure Tch (p : Nat) (u : Value) (w w' : World) : Prop where
  os : w'.os = w.os
  tape : w'.tape = w.tape
  output : w'.output = w.output
  size : w.heap.size ≤ w'.heap.size
  block : ∀ k, k < w.heap.size → k ≠ p → u.ownBlock ≠ some k → w'.heap[k]? = w.heap[k]?
def NewOwn (w : World) (u u' : Value) : Prop := u'.ownBlock = none ∨ u'.ownBlock = u.ownBlock ∨ ∃ k, u'.ownBlock = some k ∧ w.heap.size ≤ k
theorem Tch.refl (p : Nat) (u : Value) (w : World) : Tch p u w w := ⟨rfl, rfl, rfl, Nat.le_refl _, fun _ _ _ _ => rfl⟩
theorem Tch.of {p : Nat} {u u' : Value} {w W W' : World} (h : Grw w W u u') (ho : Only p W W') : Tch p u w W' := by
  have hb := ho.bel 0 W (Nat.zero_le _) (Below.refl 0 W)
  exact ⟨hb.os.trans h.1.os, hb.tape.trans h.1.tape, hb.output.trans h.1.output, by rw [ho.size]; exact h.1.size, fun k hk hp hu => (ho.row k hp).trans (h.1.block k hk (fun e => hu e.symm))⟩
/-- Bytes that lie neither at p nor in u's block. -/
def Apart (p : Nat) (u : Value) (w : World) (v : Value) (l : List Nat) : Prop :=
  (∀ c ∈ l, c < 256) ∧ ∃ a cap, v = .slice a l.length cap ∧ l.length ≤ cap ∧ cap ≤ 9223372036854775807 ∧
    (0 < l.length → ∃ b off, a = some ⟨b, off, none⟩ ∧ b ≠ p ∧ u.ownBlock ≠ some b ∧ ∀ j (hj : j < l.length), w.cell? ⟨b, off + j, none⟩ = some (.int .u8 (l[j] : Nat)))
theorem Apart.rd {p : Nat} {u : Value} {w : World} {v : Value} {l : List Nat} (h : Apart p u w v l) : Rd w.heap.size w v l := by
  obtain ⟨h1, a, cap, h2, h3, h4, h5⟩ := h
  refine ⟨h1, a, cap, h2, h3, h4, fun h0 => ?_⟩
  obtain ⟨b, off, e1, _, _, e3⟩ := h5 h0
  exact ⟨b, off, e1, lt_of_cell (e3 0 h0), e3⟩
theorem Apart.nil (p : Nat) (u : Value) (w : World) : Apart p u w (.slice none 0 0) [] := ⟨(fun _ h => nomatch h), none, 0, rfl, Nat.le_refl _, by decide, fun h => absurd h (by decide)⟩
theorem Apart.tch {p : Nat} {u u' : Value} {w w' : World} {v : Value} {l : List Nat} (h : Apart p u w v l) (ht : Tch p u w w') (hn : NewOwn w u u') : Apart p u' w' v l := by
  obtain ⟨h1, a, cap, h2, h3, h4, h5⟩ := h
  refine ⟨h1, a, cap, h2, h3, h4, fun h0 => ?_⟩
  obtain ⟨b, off, e1, e2, e3, e4⟩ := h5 h0
  have hlt : b < w.heap.size := lt_of_cell (e4 0 h0)
  refine ⟨b, off, e1, e2, fun hh => ?_, fun j hj => (World.cell?_of_block (a := ⟨b, off + j, none⟩) (ht.block b hlt e2 e3)).trans (e4 j hj)⟩
  rcases hn with hn | hn | ⟨k, hn, hk⟩
  · rw [hn] at hh; cases hh
  · exact e3 (hn.symm.trans hh)
  · have := Option.some.inj (hn.symm.trans hh); omega
/-- New bytes lie apart. -/
theorem Own.apart {N p : Nat} {e : TypeId} {u : Value} {w : World} {v : Value} {l : List Nat} (h : Own N e w v l) (hp : p < N) (hu : ∀ k, u.ownBlock = some k → k < N) : Apart p u w v l := by
  have hr := h.rd
  obtain ⟨h1, a, cap, h2, h3, h4, h5⟩ := hr
  refine ⟨h1, a, cap, h2, h3, h4, fun h0 => ?_⟩
  obtain ⟨b, off, e1, e2, e3⟩ := h5 h0
  have hN : N ≤ b := (h.row.lt b (by rw [h2, e1]; rfl)).1
  exact ⟨b, off, e1, by omega, fun hh => by have := hu b hh; omega, e3⟩
set_option maxRecDepth 100000 in
set_option maxHeartbeats 4000000 in
theorem layRunG_any {N : Nat} {v u : Value} {l x : List Nat} (w : World) (h : Own N 5 w v l) (hN : N ≤ w.heap.size) (hx : Rd N w u x) (hn : l.length ≤ 100000000) (hxn : x.length ≤ 100000000) :
    Calls Tryd.prog 36 #[v, u] w fun e w' => ∃ v', e = .returned v' ∧ Own N 5 w' v' (l ++ leN 4 x.length ++ x) ∧ Grw w w' v v' := by
  obtain ⟨i0, hi0, hz0, hs0, hb0⟩ := info_u8
  have HI := hide hi0
  have HZ := hide hz0
  have HS := hide hs0
  have HB := hide hb0
  clear hi0 hz0 hs0 hb0
  have H1 := hide (lay_any w h hN hn x.length (by omega) 4 (by decide))
  have HX := hide hx
  obtain ⟨ad, cap, hu, hcap, hmax⟩ := hx.form
  subst hu
  have HLN := hide (show (l ++ leN 4 x.length).length + x.length ≤ 300000000 by rw [List.length_append, leN_len]; omega)
  generalize hq : l ++ leN 4 x.length = q at *
  clear hq h hx
  go_enter Tryd.func36, Tryd.ntmps36
  go_wp2_with (first | (go_at_call 35; refine (H1.out).mono ?_; rintro e W ⟨vq, rfl, hown, hb, hg⟩; have HO := hide hown; have HX2 := hide (HX.out.bel hb); clear hown) | ((with_reducible refine op_appG i0 Tryd.underlying26 HI.out HZ.out HS.out HB.out HO.out HX2.out ?_ ?_ ?_ ?_ ?_); (have := HLN.out; omega); exact Nat.le_trans hN hb.size; exact rfl; exact rfl; intro W3 vr hown hgr; replace hg := hg.trans hgr))
  go_ret
  exact ⟨_, rfl, hown, hg⟩
theorem newOutQ_any (w : World) :
    Calls Tryd.prog 30 #[] w fun e w' => ∃ p, e = .returned (.pointer (some ⟨p, 0, none⟩)) ∧ w.heap.size ≤ p ∧ OutQ p w' (.slice none 0 0) [] ∧ Below w.heap.size w w' := by
  go_enter Tryd.func30, Tryd.ntmps30
  go_wp2_with ((with_reducible refine op_boxT w.heap.size ?_ (#[.slice none 0 0] : Array Value) ?_ ?_); exact rfl; exact rfl; intro W2 hr hb hz)
  go_ret
  exact ⟨_, rfl, Nat.le_refl _, ⟨hr, Own.nil _ _ _⟩, hb⟩
set_option maxRecDepth 100000 in
set_option maxHeartbeats 4000000 in
theorem outNG_any (p : Nat) (l : List Nat) (u : Value) (w : World) (h : OutQ p w u l) (hn : l.length ≤ 100000000) (V : Nat) (hV : V < 18446744073709551616) (n : Int) :
    Calls Tryd.prog 27 #[.pointer (some ⟨p, 0, none⟩), .int .u64 (V : Nat), .int .i64 n] w fun e w' => e = .returned (.pointer (some ⟨p, 0, none⟩)) ∧ ∃ u', OutQ p w' u' (layN l V n) ∧ Tch p u w w' ∧ NewOwn w u u' := by
  obtain ⟨hr, hown⟩ := h
  have hup : u.ownBlock ≠ some p := fun hh => by have := (hown.row.lt p hh).1; omega
  by_cases hbad : n < 1 ∨ 8 < n
  · rw [layN, if_pos hbad]
    by_cases h1 : n < 1
    · clear hbad
      go_enter Tryd.func27, Tryd.ntmps27
      go_wp2
      go_ret
      exact ⟨rfl, _, ⟨hr, hown⟩, Tch.refl _ _ _, .inr (.inl rfl)⟩
    · have h8 : 8 < n := by omega
      clear hbad
      go_enter Tryd.func27, Tryd.ntmps27
      go_wp2
      go_ret
      exact ⟨rfl, _, ⟨hr, hown⟩, Tch.refl _ _ _, .inr (.inl rfl)⟩
  · rw [layN, if_neg hbad]
    obtain ⟨m, rfl⟩ := Int.eq_ofNat_of_zero_le (show 0 ≤ n by omega)
    have hm1 : 1 ≤ m := by omega
    have hm8 : m ≤ 8 := by omega
    rw [Int.toNat_natCast]
    have HL := hide (lay_any w hown hr.lt hn V hV m hm8)
    obtain ⟨q, hq⟩ : ∃ q, l ++ leN m V = q := ⟨_, rfl⟩
    rw [hq] at HL ⊢
    obtain ⟨au, cu, rfl, _, _⟩ := hown.rd.form
    clear hbad hown hq
    go_enter Tryd.func27, Tryd.ntmps27
    go_wp2_with (first | ((with_reducible refine ld_o hr ?_ ?_); exact rfl) | (go_at_call 35; refine (HL.out).mono ?_; rintro e W ⟨vq, rfl, hown2, _, hg⟩; obtain ⟨aq, cq, rfl, _, _⟩ := hown2.rd.form; replace hr := hg.row hr hup) | ((with_reducible refine st_o aq q.length cq hr ?_ ?_ ?_); exact rfl; exact rfl; intro W3 hnew ho; have hown3 := own_only hown2 ho (Nat.lt_succ_self p); have htc := Tch.of hg ho; have hnw : NewOwn w _ _ := hg.2; replace hr := hnew; clear hnew ho))
    go_ret
    exact ⟨rfl, _, ⟨hr, hown3⟩, htc, hnw⟩
set_option maxRecDepth 100000 in
set_option maxHeartbeats 4000000 in
theorem outRG_any (p : Nat) (l x : List Nat) (u ux : Value) (w : World) (h : OutQ p w u l) (hx : Rd p w ux x) (hn : l.length ≤ 100000000) (hxn : x.length ≤ 100000000) :
    Calls Tryd.prog 28 #[.pointer (some ⟨p, 0, none⟩), ux] w fun e w' => e = .returned (.pointer (some ⟨p, 0, none⟩)) ∧ ∃ u', OutQ p w' u' (layR l x) ∧ Tch p u w w' ∧ NewOwn w u u' := by
  obtain ⟨hr, hown⟩ := h
  have hup : u.ownBlock ≠ some p := fun hh => by have := (hown.row.lt p hh).1; omega
  have HL := hide (layRunG_any w hown hr.lt (hx.mono (Nat.le_succ p)) hn hxn)
  unfold layR
  obtain ⟨q, hq⟩ : ∃ q, l ++ leN 4 x.length ++ x = q := ⟨_, rfl⟩
  rw [hq] at HL ⊢
  obtain ⟨au, cu, rfl, _, _⟩ := hown.rd.form
  obtain ⟨ax, cx, rfl, _, _⟩ := hx.form
  clear hown hq hx
  go_enter Tryd.func28, Tryd.ntmps28
  go_wp2_with (first | ((with_reducible refine ld_o hr ?_ ?_); exact rfl) | (go_at_call 36; (with_reducible refine (HL.out).mono ?_); rintro e W ⟨vq, rfl, hown2, hg⟩; obtain ⟨aq, cq, rfl, _, _⟩ := hown2.rd.form; replace hr := hg.row hr hup) | ((with_reducible refine st_o aq q.length cq hr ?_ ?_ ?_); exact rfl; exact rfl; intro W3 hnew ho; have hown3 := own_only hown2 ho (Nat.lt_succ_self p); have htc := Tch.of hg ho; have hnw : NewOwn w _ _ := hg.2; replace hr := hnew; clear hnew ho))
  go_ret
  exact ⟨rfl, _, ⟨hr, hown3⟩, htc, hnw⟩
end Go.Proofs.YtkahkkcbigifiaaDoor
