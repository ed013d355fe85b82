/-
  Lists of descriptors and of parts, cell by cell.
-/
import Derived.Test.YtghpjibjhaomoaaGreatDoorJMeB
import Derived.Test.YtghpjibjhaomoaaGreatDoorJMeOps
import Derived.Maps.AppendAt
import Derived.Test.YtghpjibjhaomoaaGreatDoorJRiGive
namespace Go.Proofs.YtghpjibjhaomoaaGreatDoor
open Go.RowKit
set_option linter.unusedVariables false

variable {P : Program} {ops : Array Oper} {rest : List Oper} {dst : Option Tmp} {ty : TypeId} {pos : String} {after : Array Edge} {a : Act} {w W w0 : World} {Q : Exit → Act → World → Prop} {x y : Operand} {t t' : TypeId} {cs : Array Value} {b B n c p : Nat} {f : Nat → Nat} {O O1 O' : Nat → Prop} {row : Option Nat} {e size : Nat} {v : Value} {xs : List Value} {g : Nat}

theorem grow_row (h : RowAt w g cs t) (hg : w.grownBy W row) (hn : row ≠ some g) : RowAt W g cs t := (hg.block g h.lt (fun k => hn k.symm)).trans h
theorem grow_ram (h : RamB w B b n f c O) (hg : w.grownBy W row) (hn : ∀ g, row = some g → ¬ O g) : RamB W B b n f c O :=
  h.same (fun x hx => hg.block x (h.lt x hx) (fun k => hn x k.symm hx)) hg.size
theorem grow_below {k : Nat} (h : Below k w0 w) (hg : w.grownBy W row) (hk : k ≤ w.heap.size) (hrow : ∀ g, row = some g → k ≤ g) : Below k w0 W := h.grown hg hk (fun x hx => hrow x hx)
theorem grow_went (h : Went B O O1 w0 w) (hg : w.grownBy W row) (hrow : ∀ g, row = some g → w0.heap.size ≤ g) (hB : B ≤ w0.heap.size) : Went B O O1 w0 W :=
  ⟨grow_below h.below hg (Nat.le_trans hB h.size) (fun x hx => Nat.le_trans hB (hrow x hx)), Nat.le_trans h.size hg.size,
   fun x hx hn => (hg.block x (Nat.lt_of_lt_of_le hx h.size) (fun k => absurd (hrow x k.symm) (by omega))).trans (h.other x hx hn), h.own⟩
theorem own_at (h : w.ownsRow B e size v n xs) (hk : ∀ g, v.ownBlock = some g → W.heap[g]? = w.heap[g]?) : W.ownsRow B e size v n xs := by
  refine ⟨h.1, h.2.imp id ?_⟩
  rintro ⟨g, cap, cur, rfl, hb, hgg, rest⟩
  exact ⟨g, cap, cur, rfl, hb, (hk g rfl).trans hgg, rest⟩
theorem own_bel (h : w.ownsRow B e size v n xs) (hb : Below w.heap.size w W) : W.ownsRow B e size v n xs := own_at h (fun g hg => hb.block g (h.lt g hg).2)
theorem own_went {Bm : Nat} (h : w.ownsRow B e size v n xs) (hw : Went Bm O O' w W) (hn : ∀ g, v.ownBlock = some g → ¬ O g) : W.ownsRow B e size v n xs := own_at h (fun g hg => hw.other g (h.lt g hg).2 (hn g hg))
theorem own_only (h : w.ownsRow B e size v n xs) (ho : Only b w W) (hn : v.ownBlock ≠ some b) : W.ownsRow B e size v n xs := own_at h (fun g hg => ho.row g (fun k => hn (k ▸ hg)))
theorem own_dr (h : w.ownsRow B e size v n xs) : w.drew.ownsRow B e size v n xs := own_at h (fun _ _ => rfl)
theorem own_form (h : w.ownsRow B e size v n xs) : ∃ ad cap, v = .slice ad n cap ∧ n ≤ cap ∧ cap ≤ maxLen := by
  rcases h.2 with ⟨h1, h2⟩ | ⟨g, cap, cur, h1, h2, h3, h4, h5, _⟩
  · subst h1 h2; exact ⟨none, 0, rfl, Nat.le_refl _, Nat.zero_le _⟩
  · exact ⟨_, cap, h1, h4, h5⟩
theorem own_pos (h : w.ownsRow B e size v n xs) (hn : 0 < n) : ∃ g cap, v = .slice (some ⟨g, 0, none⟩) n cap ∧ n ≤ cap ∧ cap ≤ maxLen ∧ B ≤ g ∧ g < w.heap.size ∧ ∀ j u, xs[j]? = some u → w.cell? ⟨g, j, none⟩ = some u := by
  have hc := fun (g : Nat) => h.cells (g := g)
  have hl := h.lt
  rcases h.2 with ⟨_, h2⟩ | ⟨g, cap, cur, h1, h2, h3, h4, h5, _⟩
  · omega
  · refine ⟨g, cap, h1, h4, h5, h2, (hl g (by rw [h1]; rfl)).2, fun j u hu => ?_⟩
    have := hc g (by rw [h1]; rfl) j u hu
    rwa [show (⟨g, 0, none⟩ : Addr).add j = ⟨g, j, none⟩ by unfold Addr.add; split <;> simp_all] at this
theorem grow_no {v' : Value} (hM : RamB w B b n f c O) (hLn : ∀ g, v.ownBlock = some g → ¬ O g) (hbk : v'.ownBlock = v.ownBlock ∨ v'.ownBlock = some w.heap.size) : ∀ g, v'.ownBlock = some g → ¬ O g := by
  intro g e
  rcases hbk with q | q
  · exact hLn g (q ▸ e)
  · rw [q] at e
    cases e
    exact fun k => absurd (hM.lt _ k) (by omega)
/-- The length of a slice. -/
def lenV : Value → Nat
  | .slice _ n _ => n
  | _ => 0
/-- What append makes of a list of one's own. -/
theorem op_appl (t e : TypeId) (i : TypeInfo) (z : Value) (size bytes : Nat) (ht : P.underlying t = some (.slice e)) (hi : P.info? e = some i) (hz : i.zero = some z) (hs : i.size = size) (hby : i.bytes = bytes) (hzs : z.cells.size = size) (hsz : 0 < size)
    (hown : w.ownsRow B e size v n xs) (s : Addr) (m sc : Nat) (news : List Value) (hl : news.length = m * size) (hnews : ∀ j u, news[j]? = some u → w.cell? (s.add j) = some u) (h1 : ∀ u ∈ news, u.oneCell' = true)
    (h63 : n + m ≤ maxLen) (hbytes : (n + m) * bytes ≤ 140737488355328) (hB : B ≤ w.heap.size) (hx : a.eval x = v) (hy : a.eval y = .slice (some s) m sc)
    (k : ∀ W v', W.ownsRow B e size v' (n + m) (xs ++ news) → w.grownBy W v.ownBlock → (v'.ownBlock = v.ownBlock ∨ v'.ownBlock = some w.heap.size) → wpList P ops Q rest (a.put dst v') W) :
    wpList P ops Q (⟨dst, .call { callee := .builtin .append, args := #[x, y], argTypes := #[t, t] }, t, pos, after, none⟩ :: rest) a w := by
  obtain ⟨v', W, a1, a2, a3, a4, a5⟩ := run_append_own_at (P := P) w B t t e i z size bytes ht hi hz hs hby hzs hsz v n xs hown s m sc news hl hnews h1 h63 hbytes hB
  refine wpList_plain rfl fun K hK => ?_
  unfold Oper.wp
  have : (execOp a.eval ⟨dst, .call { callee := .builtin .append, args := #[x, y], argTypes := #[t, t] }, t, pos, after, none⟩).run P w = .ok (.value v') W := by
    simp [execOp, resolve, invoke, builtin, hx, hy, a1, Result.andThen]
  rw [this, Oper.upon_value]
  exact hK _ _ (k W v' a2 a3 a5)
structure BuiltR (P : Program) (e : TypeId) (n : Nat) (L : List (Nat × Value)) (C : Array Value) : Prop where
  h : P.builtSlice e n L = some C
/-- A list that is written out, in a block of its own. -/
theorem op_bsn {parts : Array (Nat × Operand)} (t e : TypeId) (n : Nat) (hu : P.underlying t = some (.slice e)) (C : Array Value) (N : Nat) (hN : w.heap.size = N) (L : List (Nat × Value)) (hL : (parts.map fun p => (p.1, a.eval p.2)).toList = L) (hf : BuiltR P e n L C)
    (k : ∀ W, RowAt W N C e → Below N w W → Hid (W.heap.size = N + 1) → wpList P ops Q rest (a.put dst (.slice (some ⟨N, 0, none⟩) n n)) W) :
    wpList P ops Q (⟨dst, .buildSlice t n parts, ty, pos, after, none⟩ :: rest) a w := by
  subst hN hL
  replace hf := hf.h
  unfold Program.builtSlice at hf
  cases hie : P.info? e with
  | none => simp [hie] at hf
  | some ie =>
    simp only [hie] at hf
    cases hz : ie.zero with
    | none => simp [hz] at hf
    | some z =>
      simp only [hz] at hf
      by_cases hc : n * ie.size > 2 ^ 24 ∨ n * ie.size = 0
      · simp [hc] at hf
      · rw [if_neg hc] at hf
        refine wpList_plain rfl fun K hK => ?_
        exact wp_buildSlice t e n parts rfl C ie z hu hie hz (fun h' => hc (Or.inl h')) (fun h' => hc (Or.inr h')) hf (hK _ _ (k _ (RowAt.new w _ C e rfl) (below_one w _) (hide (by simp))))
end Go.Proofs.YtghpjibjhaomoaaGreatDoor
namespace Go.Proofs.YtghpjibjhaomoaaGreatDoor
open Go.RowKit
set_option linter.unusedVariables false
set_option linter.unusedSimpArgs false

attribute [local go_sem] Rg.at0 Rg.at1 Rg.at2 Rg.at3 Rg.at4 Rg.at5
/-- The words of the descriptor at a. -/
def wordsR (f : Nat → Nat) (a : Nat) : Nat → Nat := fun i => numF f (a + 4 * i) 4
def untilR (f : Nat → Nat) (a k : Nat) : Nat → Nat := fun i => if i < k then wordsR f a i else 0
theorem untilR_step (f : Nat → Nat) (a k : Nat) (hk : k < 4) : dscV (updN (untilR f a k) k (wordsR f a k)) = dscV (untilR f a (k + 1)) := by
  rcases k with _ | _ | _ | _ | k
  all_goals first | (simp [dscV, updN, untilR]; done) | omega
theorem untilR_four (f : Nat → Nat) (a : Nat) : dscV (untilR f a 4) = dscV (wordsR f a) := by simp [dscV, untilR]
theorem untilR_none (f : Nat → Nat) (a : Nat) : dscV (fun _ => 0) = dscV (untilR f a 0) := by simp [dscV, untilR]
/-- Where the n-th descriptor stands. -/
def deA (r : Rg) (n : Nat) : Nat := t32 (r.de + 16 * n)
theorem deA_lt (r : Rg) (n : Nat) : deA r n < 4294967296 := Nat.mod_lt _ (by decide)
theorem deA_al {r : Rg} (h : r.de % 16 = 0) (n : Nat) : deA r n % 16 = 0 := by unfold deA t32; omega
theorem de_in {p x k : Nat} (hp : p ≤ 16384) (hx : x < 4294967296) (h : plB p x 16 = true) (hk : k < 4) : t32 (x + 4 * k) < 4294967296 ∧ plM (t32 (x + 4 * k)) = plM x + 4 * k ∧ plB p (t32 (x + 4 * k)) 4 = true := by
  have h1 := plB_in h (by decide)
  have e : plM (t32 (x + 4 * k)) = plM x + 4 * k := by
    unfold t32 plM at *
    split at h1 <;> split <;> omega
  exact ⟨Nat.mod_lt _ (by decide), e, by unfold plB; rw [e]; exact decide_eq_true (by omega)⟩
theorem de_out {p x : Nat} (ha : x % 16 = 0) (h : plB p x 16 = false) : plB p x 4 = false := by
  have h1 := plB_out h
  have h2 := plM_al x 16 (by decide) ha
  unfold plB
  exact decide_eq_false (by omega)
set_option maxHeartbeats 2000000 in
theorem rd_ok (r : Rg) (hr0 : r.Ok) (hde : r.de % 16 = 0) (n : Nat) (hn : n < 256) {w : World} {B b p c : Nat} {f : Nat → Nat} {O : Nat → Prop} (h : RamB w B b p f c O) (hA : AreasAt w) (hG : 1 < B) (h0 : plB p (deA r n) 16 = true) : Calls Tryz.prog 61 #[.agg r.cells, .pointer (some ⟨b, 0, none⟩), .int .i64 (n : Nat)] w fun e w' => e = .returned (.tuple #[.agg (dscV (wordsR f (plM (deA r n)))), .nilIface]) ∧ ∃ O', RamB w' B b p f c O' ∧ Went B O O' w w' := by
  have hB0 := h.base
  have hGw : 1 < w.heap.size := Nat.lt_of_lt_of_le hG hB0
  have HH := hide h
  have hA0 := hA
  have hfew := h.few
  have hal := deA_al hde n
  have hdl := hr0.de
  have e0 : ((r.de : Int) + 16 * (n : Int)) % 4294967296 = ((deA r n : Nat) : Int) := by unfold deA t32; omega
  obtain ⟨av, hav⟩ : ∃ a, deA r n = a := ⟨_, rfl⟩
  have havl : av < 4294967296 := hav ▸ deA_lt r n
  rw [hav] at h0 hal e0 ⊢
  have HIN := hide (fun k (hk : k < 4) => de_in hfew havl h0 hk)
  clear h hA hr0 hde h0 hav
  go_enter Tryz.func61, Tryz.ntmps61
  go_wp2_with (first | ((with_reducible refine bx_rp w.heap.size r ?_ ?_ ?_); exact rfl; exact rfl; intro W hr hb hz) | ((with_reducible refine al_dp (w.heap.size + 1) ?_ ?_); exact hz.out; intro W hq hb' hz'; replace hr := hr.bl (hz.out ▸ hb'); replace hb := hb.trans (hb'.mono (by omega)); replace hz := hz'; clear hz' hb') | ((with_reducible refine al_dp (w.heap.size + 1 + 1) ?_ ?_); exact hz.out; intro W hd hb' hz'; replace hr := hr.bl (hz.out ▸ hb'); replace hq := hq.bl (hz.out ▸ hb'); replace hb := hb.trans (hb'.mono (by omega)); replace hz := hz'; clear hz' hb') | ((with_reducible refine ld_rde w.heap.size _ _ hr ?_ ?_ ?_); exact rfl; exact rfl))
  simp only [e0]
  clear e0
  go_loopw [19] (fun iv wr => ∃ (k : Nat) (O1 : Nat → Prop), k ≤ 4 ∧ iv = .int .i64 (k : Nat) ∧ RamB wr B b p f c O1 ∧ Went B O O1 w wr ∧ AreasAt wr ∧ RowAt wr (w.heap.size + 1) (dscV (fun _ => 0)) 95 ∧ RowAt wr (w.heap.size + 1 + 1) (dscV (untilR f (plM av) k)) 95 ∧ FarB O1 w.heap.size 3 ∧ w.heap.size + 3 ≤ wr.heap.size) (fun iv _ => 4 - (intOf iv).toNat)
  case atStart =>
    have hbw : Below w.heap.size w W := hb
    exact ⟨0, O, Nat.zero_le _, rfl, HH.out.bl hbw, Went.of hbw hB0, hA0.bl hbw, hq, (untilR_none f (plM av)) ▸ hd, HH.out.far 3, by have := hz.out; omega⟩
  case round =>
    clear hr hq hd hb hz
    obtain ⟨k, O1, hk, rfl, hM, hW, hA, hq, hd, hF, hS⟩ := hrel
    have hB : B ≤ wr.heap.size := by omega
    by_cases hlt : k < 4
    · have hk4 : k < 4 := hlt
      obtain ⟨i1, i2, i3⟩ := HIN.out k hk4
      have HL : Hid (∀ W O1 (z : Int), RamB W B b p f c O1 → AreasAt W → z = ((t32 (av + 4 * k) : Nat) : Int) → Calls Tryz.prog 30 #[.pointer (some ⟨b, 0, none⟩), .int .u32 z, .int .i64 4] W fun e w' => e = .returned (.tuple #[.int .u32 (wordsR f (plM av) k : Nat), .nilIface]) ∧ ∃ O', RamB w' B b p f c O' ∧ Went B O1 O' W w') :=
        hide (fun W O1 z hM hA hz => by rw [hz]; have := rload_ok hM hA hG (t32 (av + 4 * k)) 4 i1 (by decide) (by unfold t32; omega) i3; rw [i2] at this; exact this)
      have ez : ((t32 (av + 4 * k) : Nat) : Int) = ((av : Int) + 4 * (k : Int)) % 4294967296 := by unfold t32; omega
      rw [ez] at HL
      clear ez i1 i2 i3
      go_wp2_with (first | (go_at_call 30; (with_reducible refine (HL.out _ _ _ hM hA ?_).mono ?_); (first | omega | (simp; omega)); rintro e W2 ⟨rfl, O2, hM2, hW2⟩; replace hq := hW2.row hq (hF.at 1 (by omega)); replace hd := hW2.row hd (hF.at 2 (by omega)); replace hA := hA.wentR hG hW2; replace hF := hF.went hW2 hS; replace hS := Nat.le_trans hS hW2.size; replace hW := hW.trans hW2; replace hB := Nat.le_trans hB hW2.size; replace hM := hM2; clear hM2 hW2) | ((with_reducible refine st_di (w.heap.size + 1 + 1) k _ (wordsR f (plM av) k) hk4 hd ?_ ?_ ?_); exact rfl; exact rfl; intro W hnew ho; replace hq := hq.only ho (by omega); replace hM := hM.only ho (hF.at 2 (by omega)); replace hA := hA.onlyR ho (by omega); replace hW := hW.only ho (by omega) (by omega); replace hS := (show w.heap.size + 3 ≤ W.heap.size by rw [ho.size]; exact hS); replace hB := (show B ≤ W.heap.size by rw [ho.size]; exact hB); replace hd := (untilR_step f (plM av) k hk4) ▸ hnew; clear hnew ho))
      go_roundw
      case rel => exact ⟨k + 1, _, hlt, by go_num, hM, hW, hA, hq, hd, hF, hS⟩
      case measure => show 4 - (((k : Int) + 1)).toNat < 4 - ((k : Int)).toNat; omega
    · obtain rfl : k = 4 := by omega
      replace hd := (untilR_four f (plM av)) ▸ hd
      go_wp2_with (first | ((with_reducible refine ld_dp (w.heap.size + 1 + 1) _ hd ?_ ?_ ?_); exact rfl; exact rfl) | ((with_reducible refine st_dp (w.heap.size + 1) _ (wordsR f (plM av)) hq ?_ ?_ ?_); exact rfl; exact rfl; intro W hnew ho; replace hd := hd.only ho (by omega); replace hM := hM.only ho (hF.at 1 (by omega)); replace hA := hA.onlyR ho (by omega); replace hW := hW.only ho (by omega) (by omega); replace hS := (show w.heap.size + 3 ≤ W.heap.size by rw [ho.size]; exact hS); replace hB := (show B ≤ W.heap.size by rw [ho.size]; exact hB); replace hq := hnew; clear hnew ho))
      refine bodyPost_ret (results_cell_u Tryz.results61 _ _ (w.heap.size + 1) _ _ _ rfl hq Tryz.underlying95 rfl size_dp) rfl ?_
      exact ⟨rfl, _, hM, hW⟩
set_option maxHeartbeats 2000000 in
theorem rd_no (r : Rg) (hr0 : r.Ok) (hde : r.de % 16 = 0) (n : Nat) (hn : n < 256) {w : World} {B b p c : Nat} {f : Nat → Nat} {O : Nat → Prop} (h : RamB w B b p f c O) (hA : AreasAt w) (hG : 1 < B) (h0 : plB p (deA r n) 16 = false) : Calls Tryz.prog 61 #[.agg r.cells, .pointer (some ⟨b, 0, none⟩), .int .i64 (n : Nat)] w fun e w' => e = .returned (.tuple #[.agg (dscV (fun _ => 0)), .iface 84 (.int .i64 22)]) ∧ ∃ O', RamB w' B b p f c O' ∧ Went B O O' w w' := by
  have hB0 := h.base
  have hGw : 1 < w.heap.size := Nat.lt_of_lt_of_le hG hB0
  have HH := hide h
  have hA0 := hA
  have hfew := h.few
  have hal := deA_al hde n
  have hdl := hr0.de
  have e0 : ((r.de : Int) + 16 * (n : Int)) % 4294967296 = ((deA r n : Nat) : Int) := by unfold deA t32; omega
  obtain ⟨av, hav⟩ : ∃ a, deA r n = a := ⟨_, rfl⟩
  have havl : av < 4294967296 := hav ▸ deA_lt r n
  rw [hav] at h0 hal e0 
  have h04 := de_out hal h0
  clear h hA hr0 hde h0 hav
  go_enter Tryz.func61, Tryz.ntmps61
  go_wp2_with (first | ((with_reducible refine bx_rp w.heap.size r ?_ ?_ ?_); exact rfl; exact rfl; intro W hr hb hz) | ((with_reducible refine al_dp (w.heap.size + 1) ?_ ?_); exact hz.out; intro W hq hb' hz'; replace hr := hr.bl (hz.out ▸ hb'); replace hb := hb.trans (hb'.mono (by omega)); replace hz := hz'; clear hz' hb') | ((with_reducible refine al_dp (w.heap.size + 1 + 1) ?_ ?_); exact hz.out; intro W hd hb' hz'; replace hr := hr.bl (hz.out ▸ hb'); replace hq := hq.bl (hz.out ▸ hb'); replace hb := hb.trans (hb'.mono (by omega)); replace hz := hz'; clear hz' hb') | ((with_reducible refine ld_rde w.heap.size _ _ hr ?_ ?_ ?_); exact rfl; exact rfl))
  simp only [e0]
  clear e0
  go_loopw [19] (fun iv wr => ∃ (k : Nat) (O1 : Nat → Prop), k ≤ 0 ∧ iv = .int .i64 (k : Nat) ∧ RamB wr B b p f c O1 ∧ Went B O O1 w wr ∧ AreasAt wr ∧ RowAt wr (w.heap.size + 1) (dscV (fun _ => 0)) 95 ∧ RowAt wr (w.heap.size + 1 + 1) (dscV (untilR f (plM av) k)) 95 ∧ FarB O1 w.heap.size 3 ∧ w.heap.size + 3 ≤ wr.heap.size) (fun iv _ => 4 - (intOf iv).toNat)
  case atStart =>
    have hbw : Below w.heap.size w W := hb
    exact ⟨0, O, Nat.zero_le _, rfl, HH.out.bl hbw, Went.of hbw hB0, hA0.bl hbw, hq, (untilR_none f (plM av)) ▸ hd, HH.out.far 3, by have := hz.out; omega⟩
  case round =>
    clear hr hq hd hb hz
    obtain ⟨k, O1, hk, rfl, hM, hW, hA, hq, hd, hF, hS⟩ := hrel
    have hB : B ≤ wr.heap.size := by omega
    obtain rfl : k = 0 := by omega
    have HL : Hid (∀ W O1 (z : Int), RamB W B b p f c O1 → AreasAt W → z = (av : Int) → Calls Tryz.prog 30 #[.pointer (some ⟨b, 0, none⟩), .int .u32 z, .int .i64 4] W fun e w' => e = .returned (.tuple #[.int .u32 0, .iface 84 (.int .i64 22)]) ∧ ∃ O', RamB w' B b p f c O' ∧ Went B O1 O' W w') :=
      hide (fun W O1 z hM hA hz => by rw [hz]; exact rload_no hM hA hG av 4 havl (by decide) (by omega) h04)
    clear h04
    go_wp2_with (first | (go_at_call 30; (with_reducible refine (HL.out _ _ _ hM hA ?_).mono ?_); (first | omega | (simp; omega)); rintro e W2 ⟨rfl, O2, hM2, hW2⟩; replace hq := hW2.row hq (hF.at 1 (by omega)); replace hd := hW2.row hd (hF.at 2 (by omega)); replace hA := hA.wentR hG hW2; replace hF := hF.went hW2 hS; replace hS := Nat.le_trans hS hW2.size; replace hW := hW.trans hW2; replace hB := Nat.le_trans hB hW2.size; replace hM := hM2; clear hM2 hW2) | ((with_reducible refine st_dp (w.heap.size + 1) _ (fun _ => 0) hq ?_ ?_ ?_); exact rfl; exact rfl; intro W hnew ho; replace hd := hd.only ho (by omega); replace hM := hM.only ho (hF.at 1 (by omega)); replace hA := hA.onlyR ho (by omega); replace hW := hW.only ho (by omega) (by omega); replace hS := (show w.heap.size + 3 ≤ W.heap.size by rw [ho.size]; exact hS); replace hB := (show B ≤ W.heap.size by rw [ho.size]; exact hB); replace hq := hnew; clear hnew ho))
    refine bodyPost_ret (results_cell_u Tryz.results61 _ _ (w.heap.size + 1) _ _ _ rfl hq Tryz.underlying95 rfl size_dp) rfl ?_
    exact ⟨rfl, _, hM, hW⟩
end Go.Proofs.YtghpjibjhaomoaaGreatDoor
namespace Go.Proofs.YtghpjibjhaomoaaGreatDoor
open Go.RowKit
set_option linter.unusedVariables false
set_option linter.unusedSimpArgs false

def dscL (l : List (Nat → Nat)) : List Value := l.flatMap fun g => (dscV g).toList
theorem dscL_len (l : List (Nat → Nat)) : (dscL l).length = l.length * 4 := by
  induction l with
  | nil => rfl
  | cons x t ih => simp only [dscL, List.flatMap_cons, List.length_append, List.length_cons] at ih ⊢; rw [ih, show (dscV x).toList.length = 4 from rfl]; omega
theorem dscL_app (l m : List (Nat → Nat)) : dscL (l ++ m) = dscL l ++ dscL m := by simp [dscL]
theorem dscL_one (g : (Nat → Nat)) : dscL [g] = (dscV g).toList := by simp [dscL]
theorem dscL_ones (l : List (Nat → Nat)) : ∀ u ∈ dscL l, u.oneCell' = true := by
  intro u hu
  obtain ⟨g, _, hg⟩ := List.mem_flatMap.1 hu
  exact (Array.all_eq_true_iff_forall_mem.1 (dsc_one g)) u (by simpa using hg)
theorem dscL_at : ∀ (l : List (Nat → Nat)) (j : Nat) (g : (Nat → Nat)), l[j]? = some g → ∀ i, i < 4 → (dscL l)[j * 4 + i]? = (dscV g)[i]?
  | [], j, g, h => by simp at h
  | x :: t, 0, g, h => fun i hi => by
    simp only [List.getElem?_cons_zero, Option.some.injEq] at h
    subst h
    have : dscL (x :: t) = (dscV x).toList ++ dscL t := rfl
    rw [this, Nat.zero_mul, Nat.zero_add, List.getElem?_append_left (by show i < 4; exact hi), Array.getElem?_toList]
  | x :: t, j + 1, g, h => fun i hi => by
    have ih := dscL_at t j g (by simpa using h) i hi
    have : dscL (x :: t) = (dscV x).toList ++ dscL t := rfl
    rw [this, List.getElem?_append_right (by show 4 ≤ _; omega), ← ih]
    congr 1
    show (j + 1) * 4 + i - 4 = _
    omega
def segL (l : List Sg) : List Value := l.flatMap fun g => (g.cells).toList
theorem segL_len (l : List Sg) : (segL l).length = l.length * 3 := by
  induction l with
  | nil => rfl
  | cons x t ih => simp only [segL, List.flatMap_cons, List.length_append, List.length_cons] at ih ⊢; rw [ih, show (x.cells).toList.length = 3 from rfl]; omega
theorem segL_app (l m : List Sg) : segL (l ++ m) = segL l ++ segL m := by simp [segL]
theorem segL_one (g : Sg) : segL [g] = (g.cells).toList := by simp [segL]
theorem segL_ones (l : List Sg) : ∀ u ∈ segL l, u.oneCell' = true := by
  intro u hu
  obtain ⟨g, _, hg⟩ := List.mem_flatMap.1 hu
  exact (Array.all_eq_true_iff_forall_mem.1 (sg_one g)) u (by simpa using hg)
theorem segL_at : ∀ (l : List Sg) (j : Nat) (g : Sg), l[j]? = some g → ∀ i, i < 3 → (segL l)[j * 3 + i]? = (g.cells)[i]?
  | [], j, g, h => by simp at h
  | x :: t, 0, g, h => fun i hi => by
    simp only [List.getElem?_cons_zero, Option.some.injEq] at h
    subst h
    have : segL (x :: t) = (x.cells).toList ++ segL t := rfl
    rw [this, Nat.zero_mul, Nat.zero_add, List.getElem?_append_left (by show i < 3; exact hi), Array.getElem?_toList]
  | x :: t, j + 1, g, h => fun i hi => by
    have ih := segL_at t j g (by simpa using h) i hi
    have : segL (x :: t) = (x.cells).toList ++ segL t := rfl
    rw [this, List.getElem?_append_right (by show 3 ≤ _; omega), ← ih]
    congr 1
    show (j + 1) * 3 + i - 3 = _
    omega
theorem info_d : ∃ i, Tryz.prog.info? 95 = some i ∧ i.zero = some (.agg (dscV (fun _ => 0))) ∧ i.size = 4 ∧ i.bytes = 16 := info_parts (P := Tryz.prog) (e := 95) (z := .agg (dscV (fun _ => 0))) (size := 4) (bytes := 16) (by kernel_rfl)
theorem info_s : ∃ i, Tryz.prog.info? 70 = some i ∧ i.zero = some (.agg zeroSg.cells) ∧ i.size = 3 ∧ i.bytes = 24 := info_parts (P := Tryz.prog) (e := 70) (z := .agg zeroSg.cells) (size := 3) (bytes := 24) (by kernel_rfl)
variable {ops : Array Oper} {rest : List Oper} {dst : Option Tmp} {ty : TypeId} {pos : String} {after : Array Edge} {a : Act} {w : World} {Q : Exit → Act → World → Prop} {x y : Operand} {B : Nat} {v : Value}
/-- One more behind a list of one's own. -/
theorem app_d (l : List (Nat → Nat)) (g : Nat → Nat) (n : Nat) (hn : l.length = n) (hown : w.ownsRow B 95 4 v n (dscL l)) (s : Nat) (hs : RowAt w s (dscV g) 95) (hl : n ≤ 1000000) (hB : B ≤ w.heap.size) (hx : a.eval x = v) (hy : a.eval y = .slice (some ⟨s, 0, none⟩) 1 1)
    (k : ∀ W v', W.ownsRow B 95 4 v' (n + 1) (dscL (l ++ [g])) → w.grownBy W v.ownBlock → (v'.ownBlock = v.ownBlock ∨ v'.ownBlock = some w.heap.size) → wpList Tryz.prog ops Q rest (a.put dst v') W) :
    wpList Tryz.prog ops Q (⟨dst, .call { callee := .builtin .append, args := #[x, y], argTypes := #[90, 90] }, 90, pos, after, none⟩ :: rest) a w := by
  obtain ⟨i, h1, h2, h3, h4⟩ := info_d
  refine op_appl 90 95 i _ 4 16 Tryz.underlying90 h1 h2 h3 h4 rfl (by decide) hown ⟨s, 0, none⟩ 1 1 (dscL [g]) (by rw [dscL_len]; rfl) ?_ (dscL_ones _) (by unfold maxLen; omega) (by omega) hB hx hy ?_
  · intro j u hu
    rw [Addr.add_lit, Nat.zero_add, hs.cell, ← Array.getElem?_toList]
    rwa [dscL_one] at hu
  · intro W v' q1 q2 q3
    rw [← dscL_app] at q1
    exact k W v' q1 q2 q3
theorem app_s (l : List Sg) (g : Sg) (n : Nat) (hn : l.length = n) (hown : w.ownsRow B 70 3 v n (segL l)) (s : Nat) (hs : RowAt w s g.cells 70) (hl : n ≤ 1000000000) (hB : B ≤ w.heap.size) (hx : a.eval x = v) (hy : a.eval y = .slice (some ⟨s, 0, none⟩) 1 1)
    (k : ∀ W v', W.ownsRow B 70 3 v' (n + 1) (segL (l ++ [g])) → w.grownBy W v.ownBlock → (v'.ownBlock = v.ownBlock ∨ v'.ownBlock = some w.heap.size) → wpList Tryz.prog ops Q rest (a.put dst v') W) :
    wpList Tryz.prog ops Q (⟨dst, .call { callee := .builtin .append, args := #[x, y], argTypes := #[46, 46] }, 46, pos, after, none⟩ :: rest) a w := by
  obtain ⟨i, h1, h2, h3, h4⟩ := info_s
  refine op_appl 46 70 i _ 3 24 Tryz.underlying46 h1 h2 h3 h4 rfl (by decide) hown ⟨s, 0, none⟩ 1 1 (segL [g]) (by rw [segL_len]; rfl) ?_ (segL_ones _) (by unfold maxLen; omega) (by omega) hB hx hy ?_
  · intro j u hu
    rw [Addr.add_lit, Nat.zero_add, hs.cell, ← Array.getElem?_toList]
    rwa [segL_one] at hu
  · intro W v' q1 q2 q3
    rw [← segL_app] at q1
    exact k W v' q1 q2 q3
theorem bs_d (N : Nat) (hN : w.heap.size = N) (g : Nat → Nat) (hx : a.eval x = .agg (dscV g))
    (k : ∀ W, RowAt W N (dscV g) 95 → Below N w W → Hid (W.heap.size = N + 1) → wpList Tryz.prog ops Q rest (a.put dst (.slice (some ⟨N, 0, none⟩) 1 1)) W) :
    wpList Tryz.prog ops Q (⟨dst, .buildSlice 90 1 #[(0, x)], ty, pos, after, none⟩ :: rest) a w :=
  op_bsn 90 95 1 Tryz.underlying90 (dscV g) N hN [(0, .agg (dscV g))] (by simp [hx]) ⟨by kernel_rfl⟩ k
theorem bs_s (N : Nat) (hN : w.heap.size = N) (g : Sg) (hx : a.eval x = .agg g.cells)
    (k : ∀ W, RowAt W N g.cells 70 → Below N w W → Hid (W.heap.size = N + 1) → wpList Tryz.prog ops Q rest (a.put dst (.slice (some ⟨N, 0, none⟩) 1 1)) W) :
    wpList Tryz.prog ops Q (⟨dst, .buildSlice 46 1 #[(0, x)], ty, pos, after, none⟩ :: rest) a w :=
  op_bsn 46 70 1 Tryz.underlying46 g.cells N hN [(0, .agg g.cells)] (by simp [hx]) ⟨by kernel_rfl⟩ k
end Go.Proofs.YtghpjibjhaomoaaGreatDoor
