/-
  What blk's Poll does.
-/
import Derived.Test.YtaaiockiojejeaaGreatDoorJH35
import Derived.Test.YtaaiockiojejeaaGreatDoorJH36
import Derived.Deep.Upon
namespace Go.Proofs.YtaaiockiojejeaaGreatDoor
open Go.RowKit
set_option linter.unusedVariables false
set_option linter.unusedSimpArgs false

theorem nmL_lt : ∀ (l : List Nat), (∀ y ∈ l, y < 256) → nmL l < 256 ^ l.length
  | [], _ => by decide
  | x :: t, h => by
    have h1 := h x (List.mem_cons_self ..)
    have h2 := nmL_lt t (fun y hy => h y (List.mem_cons_of_mem _ hy))
    simp only [nmL, List.length_cons, Nat.pow_succ]
    omega
/-- The bytes of the parts that are written, or read. -/
def sumR (wr : Bool) : List Sg → Nat
  | [] => 0
  | s :: t => (if s.wr = wr then s.n.toNat else 0) + sumR wr t
theorem sumR_le (wr : Bool) : ∀ (l : List Sg), sumR wr l ≤ (l.map fun s => s.n.toNat).sum
  | [] => Nat.le_refl _
  | s :: t => by
    have := sumR_le wr t
    simp only [sumR, List.map_cons, List.sum_cons]
    split <;> omega
theorem room_sum (wr : Bool) : ∀ (l : List Sg) (a : Int), 0 ≤ a → (∀ s ∈ l, 0 ≤ s.n) → a + (sumR wr l : Int) ≤ 9223372036854775807 → roomV wr a l = a + (sumR wr l : Int)
  | [], a, _, _, _ => by simp [roomV, sumR]
  | s :: t, a, h0, hn, hb => by
    have hs := hn s (List.mem_cons_self ..)
    simp only [sumR] at hb ⊢
    simp only [roomV]
    by_cases hw : s.wr = wr
    · rw [if_pos hw] at hb ⊢
      have e : moreN a s.n = a + s.n := by unfold moreN; rw [if_pos hs, if_pos (by omega)]
      rw [if_pos hw, e, room_sum wr t (a + s.n) (by omega) (fun x hx => hn x (List.mem_cons_of_mem _ hx)) (by omega)]
      omega
    · rw [if_neg hw] at hb ⊢
      rw [if_neg hw, room_sum wr t a h0 (fun x hx => hn x (List.mem_cons_of_mem _ hx)) (by omega)]
      omega
theorem gath_len (f : Nat → Nat) : ∀ (l : List Sg) (n : Int), (∀ s ∈ l, 0 ≤ s.n) → (sumR false l : Int) ≤ n → (gathF f (partsV false n l)).length = sumR false l
  | [], n, _, _ => rfl
  | s :: t, n, hn, hb => by
    have hs := hn s (List.mem_cons_self ..)
    have ih := fun n h => gath_len f t n (fun x hx => hn x (List.mem_cons_of_mem _ hx)) h
    simp only [sumR] at hb ⊢
    simp only [partsV]
    by_cases hw : s.wr = false
    · rw [if_pos hw] at hb ⊢
      by_cases h1 : 0 < s.n
      · rw [if_pos ⟨hw, h1, by omega⟩, if_pos (by omega)]
        show (segF f _ ++ gathF f _).length = _
        rw [List.length_append, segF_len, ih _ (by omega)]
      · rw [if_neg (fun e => h1 e.2.1), ih n (by omega)]
        omega
    · rw [if_neg hw] at hb ⊢
      rw [if_neg (fun e => hw e.1), ih n (by omega)]
      omega
theorem PartsOk.rooms {p : Nat} {ps : List Sg} (h : PartsOk p ps) (wr : Bool) : roomV wr 0 ps = (sumR wr ps : Int) ∧ sumR wr ps ≤ 1048576 := by
  have h1 := sumR_le wr ps
  have h2 := h.tot
  refine ⟨by rw [room_sum wr ps 0 (by decide) (fun s hs => (h.ok s hs).2) (by omega)]; omega, by omega⟩
/-- What is so of a chain that was looked at. -/
structure ChOk (p : Nat) (f : Nat → Nat) (hd : Int) (ps : List Sg) : Prop where
  pk : PartsOk p ps
  h16 : 16 ≤ (hedF f ps).length
  w1 : 1 ≤ roomV true 0 ps
  fit : (chOf f hd ps).mov = true → (chOf f hd ps).fit = true
theorem ChOk.dat {p : Nat} {f : Nat → Nat} {hd : Int} {ps : List Sg} (h : ChOk p f hd ps) (hm : (chOf f hd ps).mov = true) : 0 < (chOf f hd ps).dat ∧ (chOf f hd ps).dat % 512 = 0 ∧ ((chOf f hd ps).kd = 1 → 16 < (gathF f (partsV false maxI ps)).length) := by
  have hf := h.fit hm
  simp only [Ch.fit, isDat, Bool.and_eq_true, decide_eq_true_eq] at hf
  refine ⟨hf.2.1, hf.2.2, fun hk => ?_⟩
  have hd1 := hf.2.1
  obtain ⟨r1, r2⟩ := h.pk.rooms false
  rw [gath_len f ps maxI (fun s hs => (h.pk.ok s hs).2) (by unfold maxI; omega)]
  have : (chOf f hd ps).dat = roomV false 0 ps - 16 := by show (if (chOf f hd ps).kd = 1 then roomV false 0 ps - 16 else _) = _; rw [if_pos hk]
  omega
theorem ChOk.se {p : Nat} {f : Nat → Nat} {hd : Int} {ps : List Sg} (h : ChOk p f hd ps) (hf : ∀ x, f x < 256) : (chOf f hd ps).se < 18446744073709551616 := by
  show nmL (((hedF f ps).drop 8).take 8) < _
  have := nmL_lt (((hedF f ps).drop 8).take 8) (fun y hy => gathF_small hf _ y (List.mem_of_mem_drop (List.mem_of_mem_take hy)))
  have hl : (((hedF f ps).drop 8).take 8).length ≤ 8 := List.length_take_le _ _
  have := Nat.pow_le_pow_right (n := 256) (by decide) hl
  have e : (256 : Nat) ^ 8 = 18446744073709551616 := by decide
  omega
theorem look_all (r : Rg) (hr0 : r.Ok) (hc : chkR r = true) (hd : Int) {w : World} {B b p c : Nat} {f : Nat → Nat} {O : Nat → Prop} (h : RamB w B b p f c O) (hA : AreasAt w) (hG : 2 < B) : Calls Tryz.prog 33 #[.agg r.cells, .pointer (some ⟨b, 0, none⟩), .int .i64 hd] w fun e w' => ∃ O', RamB w' B b p f c O' ∧ Went B O O' w w' ∧ ((lookV p f r hd = none ∧ e = .returned (.tuple #[.agg (zeroCh.c nilS), .iface 129 (.int .i64 22)])) ∨ ∃ ps v, lookV p f r hd = some (chOf f hd ps) ∧ ChOk p f hd ps ∧ e = .returned (.tuple #[.agg ((chOf f hd ps).c v), .nilIface]) ∧ w'.ownsRow w.heap.size 103 3 v ps.length (segL ps) ∧ ∀ g, v.ownBlock = some g → ¬ O' g) := by
  cases hk : walkV p f r hd with
  | none =>
    refine (look_nw r hr0 hc hd h hA hG hk).mono ?_
    rintro e w' ⟨rfl, O', h1, h2⟩
    exact ⟨O', h1, h2, .inl ⟨by unfold lookV; rw [hk], rfl⟩⟩
  | some ps =>
    have hP := walk_parts h.small hc hk
    by_cases hs : 16 ≤ (hedF f ps).length ∧ 1 ≤ roomV true 0 ps
    · by_cases hm : (chOf f hd ps).mov = true
      · by_cases hf : (chOf f hd ps).fit = true
        · refine (look_fit r hr0 hc hd h hA hG ps hk hs hm hf).mono ?_
          rintro e w' ⟨v, rfl, O', h1, h2, h3, h4⟩
          exact ⟨O', h1, h2, .inr ⟨ps, v, by unfold lookV; rw [hk]; simp [hs.1, hs.2, hf], ⟨hP, hs.1, hs.2, fun _ => hf⟩, rfl, h3, h4⟩⟩
        · refine (look_bad r hr0 hc hd h hA hG ps hk hs hm (by simpa using hf)).mono ?_
          rintro e w' ⟨rfl, O', h1, h2⟩
          exact ⟨O', h1, h2, .inl ⟨by unfold lookV; rw [hk]; simp [hm, hf], rfl⟩⟩
      · refine (look_nm r hr0 hc hd h hA hG ps hk hs (by simpa using hm)).mono ?_
        rintro e w' ⟨v, rfl, O', h1, h2, h3, h4⟩
        exact ⟨O', h1, h2, .inr ⟨ps, v, by unfold lookV; rw [hk]; simp [hs.1, hs.2, hm], ⟨hP, hs.1, hs.2, fun q => absurd q hm⟩, rfl, h3, h4⟩⟩
    · refine (look_sh r hr0 hc hd h hA hG ps hk hs).mono ?_
      rintro e w' ⟨rfl, O', h1, h2⟩
      refine ⟨O', h1, h2, .inl ⟨?_, rfl⟩⟩
      unfold lookV
      rw [hk]
      simp only
      rw [if_neg]
      intro q
      simp only [Bool.and_eq_true, decide_eq_true_eq] at q
      exact hs ⟨q.1, q.2.1⟩
theorem serve_any (s : Bk) (ok : s.Ok) (l : List (Rq × Value)) (hsl : l.map (·.1) = s.l) (v : Value) (hd : Int) (ps : List Sg) (cv : Value) {Bl Bi : Nat} {w : World} {B b p c : Nat} {f : Nat → Nat} {O : Nat → Prop} (h : RamB w B b p f c O) (hA : AreasAt w) (hG : 2 < B) (hI : InAt w Bi O v l) (hBi : Bi ≤ w.heap.size) (hBB : B ≤ Bi) (hL : w.ownsRow Bl 103 3 cv ps.length (segL ps)) (hLn : ∀ g, cv.ownBlock = some g → ¬ O g) (hC : ChOk p f hd ps) (hl8 : l.length ≤ 100) (hc9 : c ≤ 600000000) : Calls Tryz.prog 34 #[.agg (s.c v), .pointer (some ⟨b, 0, none⟩), .agg ((chOf f hd ps).c cv)] w fun e w' => ∃ v' av, e = .returned (.tuple #[.agg ((srvV p f s (chOf f hd ps)).2.1.c v'), av]) ∧ ∃ l' O' al, l'.map (·.1) = (srvV p f s (chOf f hd ps)).2.1.l ∧ RamB w' B b p (srvV p f s (chOf f hd ps)).1 (c + 4) O' ∧ Went B (Or1 O v) (Or1 O' v') w w' ∧ InAt w' Bi O' v' l' ∧ (∀ g, v'.ownBlock = some g → v.ownBlock = some g ∨ w.heap.size ≤ g) ∧ AsksAt w' w.heap.size O' av al ∧ al.map (·.1) = (srvV p f s (chOf f hd ps)).2.2 := by
  have hse := hC.se h.small
  by_cases hm : (chOf f hd ps).mov = true
  · obtain ⟨d0, d1, d2⟩ := hC.dat hm
    cases hw : isWit s.sc (chOf f hd ps).se (chOf f hd ps).dat.toNat with
    | true => exact serve_0 s ok l hsl v (chOf f hd ps) cv h hA hG hI hBi hBB hL hLn hC.pk rfl rfl hl8 hse hc9 hm (by omega) hw d2
    | false => exact serve_1 s ok l hsl v (chOf f hd ps) cv h hA hG hI hBi hBB hL hLn hC.pk rfl rfl hl8 hse hc9 hm (by omega) hw
  · by_cases h4 : (chOf f hd ps).kd = 4
    · exact serve_4 s ok l hsl v (chOf f hd ps) cv h hA hG hI hBi hBB hL hLn hC.pk rfl rfl hl8 hse hc9 h4
    · exact serve_2 s ok l hsl v (chOf f hd ps) cv h hA hG hI hBi hBB hL hLn hC.pk rfl rfl hl8 hse hc9 h4 (by simpa using hm)
theorem takenR_ok {r : Rg} (h : r.Ok) : (takenR r).Ok := ⟨h.sz0, h.sz1, h.de, h.av, h.us, Nat.mod_lt _ (by decide), h.pu⟩
theorem V.Ok.ring {s : V} (h : s.Ok) {r : Rg} (hr : r.Ok) : (s.q0w (s.q0.rw' r)).Ok := ⟨h.st, h.fs, h.ds, h.se, h.ir, h.d0, h.d1, hr, h.q1⟩
theorem or_lt (n m : Nat) (h : n < 4294967296) (hm : m < 4294967296) : n ||| m < 4294967296 := Nat.or_lt_two_pow (n := 32) h hm
theorem V.Ok.fail {s : V} (h : s.Ok) : (failV s).Ok := ⟨or_lt _ _ h.st (by decide), h.fs, h.ds, h.se, or_lt _ _ h.ir (by decide), h.d0, h.d1, h.q0, h.q1⟩
theorem V.Ok.used {s : V} (h : s.Ok) : (usedV s).Ok := ⟨h.st, h.fs, h.ds, h.se, or_lt _ _ h.ir (by decide), h.d0, h.d1, h.q0, h.q1⟩
theorem ansV_ok {p : Nat} {f : Nat → Nat} {s : Bk} {hd : Int} {l : List Sg} {b : List Nat} (h : s.Ok) : (ansV p f s hd l b).2.Ok := by
  unfold ansV
  split
  · split
    · rename_i r hr
      exact ⟨(h.p.ring (givenR_ok h.p.q0 hr)).used, h.sc, h.nx, h.l, h.ll⟩
    · exact ⟨h.p.fail, h.sc, h.nx, h.l, h.ll⟩
  · exact ⟨h.p.fail, h.sc, h.nx, h.l, h.ll⟩
theorem nxtV_lt (l : List Rq) : ∀ (k n : Nat), n < 4294967296 → nxtV l k n < 4294967296
  | 0, n, h => h
  | k + 1, n, h => by
    simp only [nxtV]
    split
    · exact h
    · exact nxtV_lt l k _ (Nat.mod_lt _ (by decide))
theorem srvV_ok {p : Nat} {f : Nat → Nat} {s : Bk} {hd : Int} {ps : List Sg} (h : s.Ok) (hC : ChOk p f hd ps) (h0 : 0 ≤ hd) (h1 : hd ≤ 1000000) (hl : s.l.length ≤ 100) : (srvV p f s (chOf f hd ps)).2.1.Ok := by
  unfold srvV
  split
  · exact ansV_ok h
  · split
    · rename_i hm
      split
      · have hl' : (s.l ++ [reqV s (chOf f hd ps)]).length ≤ 1000 := by rw [List.length_append]; simp; omega
        refine ⟨h.p, h.sc, nxtV_lt _ _ _ h.nx, fun q hq => ?_, hl'⟩
        rcases List.mem_append.1 hq with k | k
        · exact h.l q k
        · rw [List.mem_singleton.1 k]
          obtain ⟨r1, r2⟩ := hC.pk.rooms false
          obtain ⟨r3, r4⟩ := hC.pk.rooms true
          have hdt : -9223372036854775808 ≤ (chOf f hd ps).dat ∧ (chOf f hd ps).dat ≤ 9223372036854775807 := by
            show _ ≤ (if (chOf f hd ps).kd = 1 then roomV false 0 ps - 16 else roomV true 0 ps - 1) ∧ (if (chOf f hd ps).kd = 1 then roomV false 0 ps - 16 else roomV true 0 ps - 1) ≤ _
            split <;> omega
          exact ⟨h.nx, by show (_ : Int) ≤ hd; omega, by show hd ≤ _; omega, Nat.mod_lt _ (by decide), hdt.1, hdt.2, fun g hg => (hC.pk.ok g (List.mem_filter.1 hg).1).1, Nat.le_trans (wriL_le _) (by show ps.length ≤ 1000; have := hC.pk.len; omega)⟩
      · exact ansV_ok h
    · exact ansV_ok h
theorem srvV_len {p : Nat} {f : Nat → Nat} {s : Bk} {ch : Ch} : (srvV p f s ch).2.1.l.length ≤ s.l.length + 1 := by
  unfold srvV
  split
  · show (ansV p f s _ _ _).2.l.length ≤ _; rw [ansV_l]; omega
  · split
    · split
      · show (s.l ++ [_]).length ≤ _; simp
      · show (ansV p f s _ _ _).2.l.length ≤ _; rw [ansV_l]; omega
    · show (ansV p f s _ _ _).2.l.length ≤ _; rw [ansV_l]; omega
variable {P : Program} {ops : Array Oper} {rest : List Oper} {dst : Option Tmp} {ty : TypeId} {pos : String} {after : Array Edge} {a : Act} {w : World} {Q : Exit → Act → World → Prop} {x y : Operand}
/-- append of nil. -/
theorem op_app0 (t e : TypeId) (i : TypeInfo) (ht : P.underlying t = some (.slice e)) (hi : P.info? e = some i) (base : Option Addr) (n cap : Nat) (hle : n ≤ cap) (hx : a.eval x = .slice base n cap) (hy : a.eval y = .slice none 0 0)
    (k : wpList P ops Q rest (a.put dst (.slice base n cap)) w) :
    wpList P ops Q (⟨dst, .call { callee := .builtin .append, args := #[x, y], argTypes := #[t, t] }, t, pos, after, none⟩ :: rest) a w := by
  have hrun := run_append_nothing (P := P) w t t t e i ht hi base n cap hle (.slice none 0 0) (Src.ofNil w ht 0)
  refine wpList_plain rfl fun K hK => ?_
  unfold Oper.wp
  have : (execOp a.eval ⟨dst, .call { callee := .builtin .append, args := #[x, y], argTypes := #[t, t] }, t, pos, after, none⟩).run P w = .ok (.value (.slice base n cap)) w := by
    simp [execOp, resolve, invoke, builtin, hx, hy, hrun, Result.andThen]
  rw [this, Oper.upon_value]
  exact hK _ _ k
theorem AsksAt.rowT {w : World} {B : Nat} {O : Nat → Prop} {av : Value} {l : List (Ak × Value)} (h : AsksAt w B O av l) : ∀ g, av.ownBlock = some g → ∃ cs, RowAt w g cs 81 := fun g hg => by
  rcases h.row.2 with ⟨h1, _⟩ | ⟨g', cap, cur, h1, _, h3, _⟩
  · rw [h1] at hg; cases hg
  · rw [h1] at hg; cases hg; exact ⟨cur, h3⟩
theorem AkAt.grow {w W : World} {B : Nat} {O : Nat → Prop} {k : Ak} {dv av : Value} (h : AkAt w B O k dv) (hg : w.grownBy W av.ownBlock) (hr : ∀ g, av.ownBlock = some g → ∃ cs, RowAt w g cs 81) : AkAt W B O k dv := by
  rcases h.ex with h | ⟨g, cap, all, e1, e2, e3⟩
  · exact ⟨.inl h⟩
  · exact ⟨.inr ⟨g, cap, all, e1, own_grow (cs := #[]) e2 hg hr (by decide), e3⟩⟩
theorem InAt.grow {w W : World} {B : Nat} {O : Nat → Prop} {v av : Value} {l : List (Rq × Value)} (h : InAt w B O v l) (hg : w.grownBy W av.ownBlock) (hr : ∀ g, av.ownBlock = some g → ∃ cs, RowAt w g cs 81) : InAt W B O v l :=
  ⟨own_grow (cs := #[]) h.row hg hr (by decide), fun x hx => own_grow (cs := #[]) (h.own x hx) hg hr (by decide), h.far, h.fars⟩
theorem AsksAt.ones {w : World} {B : Nat} {O : Nat → Prop} {av : Value} {l : List (Ak × Value)} (h : AsksAt w B O av l) : ∀ u ∈ askL l, u.oneCell' = true := askL_ones l (fun x hx => (h.dat x hx).one)
theorem AsksAt.app {w W : World} {B B' : Nat} {O : Nat → Prop} {av av2 av3 : Value} {l l2 : List (Ak × Value)} (h : AsksAt w B O av l) (k : AsksAt w B' O av2 l2) (hB : B ≤ B') (hr : W.ownsRow B 81 5 av3 (l.length + l2.length) (askL l ++ askL l2)) (hg : w.grownBy W av.ownBlock) (hbk : av3.ownBlock = av.ownBlock ∨ av3.ownBlock = some w.heap.size) (hO : ∀ x, O x → x < w.heap.size) : AsksAt W B O av3 (l ++ l2) := by
  refine ⟨by rw [List.length_append, askL_app]; exact hr, fun x hx => ?_, fun g e => ?_⟩
  · rcases List.mem_append.1 hx with q | q
    · exact (h.dat x q).grow hg h.rowT
    · exact ((AsksAt.lowerB k hB).dat x q).grow hg h.rowT
  · rcases hbk with q | q
    · exact h.far g (q ▸ e)
    · rw [q] at e; cases e; exact fun k => absurd (hO _ k) (by omega)
end Go.Proofs.YtaaiockiojejeaaGreatDoor
namespace Go.Proofs.YtaaiockiojejeaaGreatDoor
open Go.RowKit
set_option linter.unusedVariables false
set_option linter.unusedSimpArgs false

set_option maxHeartbeats 4000000 in
theorem poll_no (s : Bk) (ok : s.Ok) (l : List (Rq × Value)) (hsl : l.map (·.1) = s.l) (hl8 : l.length ≤ 90) (v : Value) {Bi : Nat} {w : World} {B b p c : Nat} {f : Nat → Nat} {O : Nat → Prop} (h : RamB w B b p f c O) (hA : AreasAt w) (hG : 2 < B) (hI : InAt w Bi O v l) (hc9 : c ≤ 300000000) (hn : (s.be && (liveV s.p && s.p.q0.rd)) = false) : Calls Tryz.prog 12 #[.agg (s.c v), .pointer (some ⟨b, 0, none⟩)] w fun e w' => ∃ v' av, e = .returned (.tuple #[.agg ((polV p f s).s.c v'), av]) ∧ ∃ l' O' al, l'.map (·.1) = (polV p f s).s.l ∧ RamB w' B b p (polV p f s).f (c + 262144) O' ∧ Went B O O' w w' ∧ InAt w' w.heap.size O' v' l' ∧ AsksAt w' w.heap.size O' av al ∧ al.map (·.1) = (polV p f s).a := by
  have e1 : polV p f s = ⟨f, s, []⟩ := by unfold polV; rw [if_neg (by rw [hn]; decide)]
  rw [e1]
  simp only
  clear e1
  have HC : Hid (∀ W, Below w.heap.size w W → Calls Tryz.prog 29 #[.agg (s.c v)] W fun e w' => ∃ v', e = .returned (.agg (s.c v')) ∧ ∃ l', l'.map (·.1) = l.map (·.1) ∧ InAt w' W.heap.size (fun _ => False) v' l' ∧ Below W.heap.size W w') := hide (fun W hb => bclone_any s l (by omega) (fun x hx => (ok.l x.1 (by rw [← hsl]; exact List.mem_map_of_mem hx)).ll) (hI.bl hb))
  have HLv := hide (fun w => live_any s.p ok.p w)
  obtain ⟨lb, hlb⟩ : ∃ x, liveV s.p = x := ⟨_, rfl⟩
  rw [hlb] at HLv hn
  have HSL := hide hsl
  obtain ⟨be, hbe⟩ : ∃ x, s.be = x := ⟨_, rfl⟩
  obtain ⟨rd, hrd⟩ : ∃ x, s.p.q0.rd = x := ⟨_, rfl⟩
  rw [hbe, hrd] at hn
  clear hI hsl hlb
  have hB0 := h.base
  have hGw : 2 < w.heap.size := Nat.lt_of_lt_of_le hG hB0
  have hA0 := hA
  clear hA
  cases be with
  | false =>
    clear hn
    go_enter Tryz.func12, Tryz.ntmps12
    go_wp2_with (first | ((with_reducible refine bx_bk w.heap.size s v ?_ ?_ ?_); exact rfl; exact rfl; intro W hr hb hz) | ((with_reducible refine al_bk (w.heap.size + 1) ?_ ?_); exact hz.out; intro W hq hb' hz'; replace hr := hr.bl (hz.out ▸ hb'); replace hb := hb.trans (hb'.mono (by omega)); replace hz := hz'; have hM := h.bl hb; have hW := Went.of (O := O) hb hB0; have hA := hA0.bl hb; have hF := h.far 2; have hS : w.heap.size + 2 ≤ W.heap.size := Nat.le_of_eq hz.out.symm; have hB : B ≤ W.heap.size := Nat.le_trans hB0 hb.size; have HB := hide hb; clear hb hz hb' hz') | ((with_reducible refine ld_bk w.heap.size s _ hr ?_ ?_ ?_); exact rfl; exact rfl) | (go_at_call 29; (with_reducible refine (HC.out _ HB.out).mono ?_); rintro e W3 ⟨v1, rfl, l1, q1, hI1, hbc⟩; replace hI1 := hI1.lower hS; (have hv1o := own_one hI1.row); clear HB; replace hI1 := hI1.off (O' := O) (fun x k => Nat.lt_of_lt_of_le (h.lt x k) (by omega)); replace hM := hM.bl hbc; replace hW := hW.bl hbc hB; replace hA := hA.bl hbc; replace hB := Nat.le_trans hB hbc.size; replace hS := Nat.le_trans hS hbc.size; replace hr := hr.bl hbc; replace hq := hq.bl hbc; clear hbc) | ((with_reducible refine st_bk w.heap.size _ _ s v1 hv1o hr ?_ ?_ ?_); exact rfl; exact rfl; intro W hnew ho; replace hI1 := hI1.only ho (fun e => absurd (hI1.row.lt _ e).1 (by omega)) (fun x hx e => absurd ((hI1.own x hx).lt _ e).1 (by omega)); replace hq := hq.only ho (by omega); replace hM := hM.only ho (hF.at 0 (by omega)); replace hA := hA.onlyR ho (by omega); replace hW := hW.only ho (by omega) (by omega); replace hS := (show w.heap.size + 2 ≤ W.heap.size by rw [ho.size]; exact hS); replace hB := (show B ≤ W.heap.size by rw [ho.size]; exact hB); replace hr := hnew; clear hnew ho) | ((with_reducible refine ld_bbe w.heap.size s _ _ hr ?_ ?_ ?_); exact rfl; exact rfl; rw [hbe]) | ((with_reducible refine ld_bp w.heap.size s _ _ hr ?_ ?_ ?_); exact rfl; exact rfl) | ((with_reducible refine ld_brd w.heap.size s _ _ hr ?_ ?_ ?_); exact rfl; exact rfl; rw [hrd]) | (go_at_call 30; (with_reducible refine (HLv.out _).mono ?_); rintro e W ⟨rfl, hbc⟩; replace hI1 := hI1.bl hbc; replace hM := hM.bl hbc; replace hW := hW.bl hbc hB; replace hA := hA.bl hbc; replace hB := Nat.le_trans hB hbc.size; replace hS := Nat.le_trans hS hbc.size; replace hr := hr.bl hbc; replace hq := hq.bl hbc; clear hbc) | ((with_reducible refine st_bk (w.heap.size + 1) _ _ s v1 hv1o hq ?_ ?_ ?_); exact rfl; exact rfl; intro W hnew ho; replace hI1 := hI1.only ho (fun e => absurd (hI1.row.lt _ e).1 (by omega)) (fun x hx e => absurd ((hI1.own x hx).lt _ e).1 (by omega)); replace hr := hr.only ho (by omega); replace hM := hM.only ho (hF.at 1 (by omega)); replace hA := hA.onlyR ho (by omega); replace hW := hW.only ho (by omega) (by omega); replace hS := (show w.heap.size + 2 ≤ W.heap.size by rw [ho.size]; exact hS); replace hB := (show B ≤ W.heap.size by rw [ho.size]; exact hB); replace hq := hnew; clear hnew ho))
    refine bodyPost_ret (results_cell_u Tryz.results12 _ _ (w.heap.size + 1) _ _ _ rfl hq Tryz.underlying53 rfl size_bk) rfl ?_
    exact ⟨_, _, rfl, l1, _, [], q1.trans HSL.out, hM.more (by omega), hW, hI1.lower (by omega), ⟨World.ownsRow_nil _ _ _ _, (fun x hx => by cases hx), (fun g e => by cases e)⟩, rfl⟩
  | true =>
    cases lb with
    | false =>
      clear hn
      go_enter Tryz.func12, Tryz.ntmps12
      go_wp2_with (first | ((with_reducible refine bx_bk w.heap.size s v ?_ ?_ ?_); exact rfl; exact rfl; intro W hr hb hz) | ((with_reducible refine al_bk (w.heap.size + 1) ?_ ?_); exact hz.out; intro W hq hb' hz'; replace hr := hr.bl (hz.out ▸ hb'); replace hb := hb.trans (hb'.mono (by omega)); replace hz := hz'; have hM := h.bl hb; have hW := Went.of (O := O) hb hB0; have hA := hA0.bl hb; have hF := h.far 2; have hS : w.heap.size + 2 ≤ W.heap.size := Nat.le_of_eq hz.out.symm; have hB : B ≤ W.heap.size := Nat.le_trans hB0 hb.size; have HB := hide hb; clear hb hz hb' hz') | ((with_reducible refine ld_bk w.heap.size s _ hr ?_ ?_ ?_); exact rfl; exact rfl) | (go_at_call 29; (with_reducible refine (HC.out _ HB.out).mono ?_); rintro e W3 ⟨v1, rfl, l1, q1, hI1, hbc⟩; replace hI1 := hI1.lower hS; (have hv1o := own_one hI1.row); clear HB; replace hI1 := hI1.off (O' := O) (fun x k => Nat.lt_of_lt_of_le (h.lt x k) (by omega)); replace hM := hM.bl hbc; replace hW := hW.bl hbc hB; replace hA := hA.bl hbc; replace hB := Nat.le_trans hB hbc.size; replace hS := Nat.le_trans hS hbc.size; replace hr := hr.bl hbc; replace hq := hq.bl hbc; clear hbc) | ((with_reducible refine st_bk w.heap.size _ _ s v1 hv1o hr ?_ ?_ ?_); exact rfl; exact rfl; intro W hnew ho; replace hI1 := hI1.only ho (fun e => absurd (hI1.row.lt _ e).1 (by omega)) (fun x hx e => absurd ((hI1.own x hx).lt _ e).1 (by omega)); replace hq := hq.only ho (by omega); replace hM := hM.only ho (hF.at 0 (by omega)); replace hA := hA.onlyR ho (by omega); replace hW := hW.only ho (by omega) (by omega); replace hS := (show w.heap.size + 2 ≤ W.heap.size by rw [ho.size]; exact hS); replace hB := (show B ≤ W.heap.size by rw [ho.size]; exact hB); replace hr := hnew; clear hnew ho) | ((with_reducible refine ld_bbe w.heap.size s _ _ hr ?_ ?_ ?_); exact rfl; exact rfl; rw [hbe]) | ((with_reducible refine ld_bp w.heap.size s _ _ hr ?_ ?_ ?_); exact rfl; exact rfl) | ((with_reducible refine ld_brd w.heap.size s _ _ hr ?_ ?_ ?_); exact rfl; exact rfl; rw [hrd]) | (go_at_call 30; (with_reducible refine (HLv.out _).mono ?_); rintro e W ⟨rfl, hbc⟩; replace hI1 := hI1.bl hbc; replace hM := hM.bl hbc; replace hW := hW.bl hbc hB; replace hA := hA.bl hbc; replace hB := Nat.le_trans hB hbc.size; replace hS := Nat.le_trans hS hbc.size; replace hr := hr.bl hbc; replace hq := hq.bl hbc; clear hbc) | ((with_reducible refine st_bk (w.heap.size + 1) _ _ s v1 hv1o hq ?_ ?_ ?_); exact rfl; exact rfl; intro W hnew ho; replace hI1 := hI1.only ho (fun e => absurd (hI1.row.lt _ e).1 (by omega)) (fun x hx e => absurd ((hI1.own x hx).lt _ e).1 (by omega)); replace hr := hr.only ho (by omega); replace hM := hM.only ho (hF.at 1 (by omega)); replace hA := hA.onlyR ho (by omega); replace hW := hW.only ho (by omega) (by omega); replace hS := (show w.heap.size + 2 ≤ W.heap.size by rw [ho.size]; exact hS); replace hB := (show B ≤ W.heap.size by rw [ho.size]; exact hB); replace hq := hnew; clear hnew ho))
      refine bodyPost_ret (results_cell_u Tryz.results12 _ _ (w.heap.size + 1) _ _ _ rfl hq Tryz.underlying53 rfl size_bk) rfl ?_
      exact ⟨_, _, rfl, l1, _, [], q1.trans HSL.out, hM.more (by omega), hW, hI1.lower (by omega), ⟨World.ownsRow_nil _ _ _ _, (fun x hx => by cases hx), (fun g e => by cases e)⟩, rfl⟩
    | true =>
      cases rd with
      | false =>
        clear hn
        go_enter Tryz.func12, Tryz.ntmps12
        go_wp2_with (first | ((with_reducible refine bx_bk w.heap.size s v ?_ ?_ ?_); exact rfl; exact rfl; intro W hr hb hz) | ((with_reducible refine al_bk (w.heap.size + 1) ?_ ?_); exact hz.out; intro W hq hb' hz'; replace hr := hr.bl (hz.out ▸ hb'); replace hb := hb.trans (hb'.mono (by omega)); replace hz := hz'; have hM := h.bl hb; have hW := Went.of (O := O) hb hB0; have hA := hA0.bl hb; have hF := h.far 2; have hS : w.heap.size + 2 ≤ W.heap.size := Nat.le_of_eq hz.out.symm; have hB : B ≤ W.heap.size := Nat.le_trans hB0 hb.size; have HB := hide hb; clear hb hz hb' hz') | ((with_reducible refine ld_bk w.heap.size s _ hr ?_ ?_ ?_); exact rfl; exact rfl) | (go_at_call 29; (with_reducible refine (HC.out _ HB.out).mono ?_); rintro e W3 ⟨v1, rfl, l1, q1, hI1, hbc⟩; replace hI1 := hI1.lower hS; (have hv1o := own_one hI1.row); clear HB; replace hI1 := hI1.off (O' := O) (fun x k => Nat.lt_of_lt_of_le (h.lt x k) (by omega)); replace hM := hM.bl hbc; replace hW := hW.bl hbc hB; replace hA := hA.bl hbc; replace hB := Nat.le_trans hB hbc.size; replace hS := Nat.le_trans hS hbc.size; replace hr := hr.bl hbc; replace hq := hq.bl hbc; clear hbc) | ((with_reducible refine st_bk w.heap.size _ _ s v1 hv1o hr ?_ ?_ ?_); exact rfl; exact rfl; intro W hnew ho; replace hI1 := hI1.only ho (fun e => absurd (hI1.row.lt _ e).1 (by omega)) (fun x hx e => absurd ((hI1.own x hx).lt _ e).1 (by omega)); replace hq := hq.only ho (by omega); replace hM := hM.only ho (hF.at 0 (by omega)); replace hA := hA.onlyR ho (by omega); replace hW := hW.only ho (by omega) (by omega); replace hS := (show w.heap.size + 2 ≤ W.heap.size by rw [ho.size]; exact hS); replace hB := (show B ≤ W.heap.size by rw [ho.size]; exact hB); replace hr := hnew; clear hnew ho) | ((with_reducible refine ld_bbe w.heap.size s _ _ hr ?_ ?_ ?_); exact rfl; exact rfl; rw [hbe]) | ((with_reducible refine ld_bp w.heap.size s _ _ hr ?_ ?_ ?_); exact rfl; exact rfl) | ((with_reducible refine ld_brd w.heap.size s _ _ hr ?_ ?_ ?_); exact rfl; exact rfl; rw [hrd]) | (go_at_call 30; (with_reducible refine (HLv.out _).mono ?_); rintro e W ⟨rfl, hbc⟩; replace hI1 := hI1.bl hbc; replace hM := hM.bl hbc; replace hW := hW.bl hbc hB; replace hA := hA.bl hbc; replace hB := Nat.le_trans hB hbc.size; replace hS := Nat.le_trans hS hbc.size; replace hr := hr.bl hbc; replace hq := hq.bl hbc; clear hbc) | ((with_reducible refine st_bk (w.heap.size + 1) _ _ s v1 hv1o hq ?_ ?_ ?_); exact rfl; exact rfl; intro W hnew ho; replace hI1 := hI1.only ho (fun e => absurd (hI1.row.lt _ e).1 (by omega)) (fun x hx e => absurd ((hI1.own x hx).lt _ e).1 (by omega)); replace hr := hr.only ho (by omega); replace hM := hM.only ho (hF.at 1 (by omega)); replace hA := hA.onlyR ho (by omega); replace hW := hW.only ho (by omega) (by omega); replace hS := (show w.heap.size + 2 ≤ W.heap.size by rw [ho.size]; exact hS); replace hB := (show B ≤ W.heap.size by rw [ho.size]; exact hB); replace hq := hnew; clear hnew ho))
        refine bodyPost_ret (results_cell_u Tryz.results12 _ _ (w.heap.size + 1) _ _ _ rfl hq Tryz.underlying53 rfl size_bk) rfl ?_
        exact ⟨_, _, rfl, l1, _, [], q1.trans HSL.out, hM.more (by omega), hW, hI1.lower (by omega), ⟨World.ownsRow_nil _ _ _ _, (fun x hx => by cases hx), (fun g e => by cases e)⟩, rfl⟩
      | true => cases hn
end Go.Proofs.YtaaiockiojejeaaGreatDoor
