/-
  What the document's Gather answers of parts that memory has.
-/
import Derived.Test.YtghpjibjhaomoaaGreatDoorJRiEq
import Derived.BigQuiet
import Derived.Test.YtghpjibjhaomoaaGreatDoorJRiRWM
import Derived.Deep.RegionHeld3
namespace Go.Proofs.YtghpjibjhaomoaaGreatDoor
open Go.RowKit
set_option linter.unusedVariables false
set_option linter.unusedSimpArgs false

set_option maxHeartbeats 2000000 in
theorem segs_any (l : List Sg) (hl : l.length ≤ 256) {w : World} {B1 B2 : Nat} {v1 v2 : Value} (h1 : w.ownsRow B1 70 3 v1 l.length (segL l)) (h2 : w.ownsRow B2 100 3 v2 l.length (segL l)) :
    Calls Tryz.prog 20 #[v1, v2] w fun e w' => e = .returned (.bool true) ∧ Below w.heap.size w w' := by
  have HL1 := hide h1
  have HL2 := hide h2
  obtain ⟨n, hn⟩ : ∃ n, l.length = n := ⟨_, rfl⟩
  have HN := hide hn
  rw [hn] at hl
  obtain ⟨av, cap, rfl, hc1, hc2⟩ := own_form h1
  obtain ⟨bv, cbp, rfl, hc3, hc4⟩ := own_form h2
  rw [hn] at hc1 hc3 ⊢
  clear h1 h2 hn
  go_enter Tryz.func20, Tryz.ntmps20
  go_wp2
  go_loopw [5] (fun iv wr => ∃ (k : Nat), k ≤ n ∧ iv = .int .i64 (k : Nat) ∧ Below w.heap.size w wr) (fun iv _ => n - (intOf iv).toNat)
  case atStart => exact ⟨0, Nat.zero_le _, rfl, Below.refl _ _⟩
  case round =>
    obtain ⟨k, hk, rfl, hb⟩ := hrel
    by_cases hlt : k < n
    · obtain ⟨g1, cap', hve, _, _, _, _, hcell⟩ := own_pos (own_bel HL1.out hb) (show 0 < l.length by rw [HN.out]; omega)
      obtain ⟨rfl, rfl⟩ : av = some ⟨g1, 0, none⟩ ∧ cap = cap' := by injection hve with e1 e2 e3; exact ⟨e1, e3⟩
      obtain ⟨g2, cbp', hve2, _, _, _, _, hcel2⟩ := own_pos (own_bel HL2.out hb) (show 0 < l.length by rw [HN.out]; omega)
      obtain ⟨rfl, rfl⟩ : bv = some ⟨g2, 0, none⟩ ∧ cbp = cbp' := by injection hve2 with e1 e2 e3; exact ⟨e1, e3⟩
      obtain ⟨s, hs⟩ : ∃ s, l[k]? = some s := ⟨_, List.getElem?_eq_getElem (by rw [HN.out]; exact hlt)⟩
      have f0 : wr.cell? ⟨g1, k * 3, none⟩ = some (.int .u32 (s.at' : Nat)) := hcell _ _ ((segL_at l k s hs 0 (by decide)).trans rfl)
      have f1 : wr.cell? ⟨g1, k * 3 + 1, none⟩ = some (.int .i64 s.n) := hcell _ _ ((segL_at l k s hs 1 (by decide)).trans rfl)
      have f2 : wr.cell? ⟨g1, k * 3 + 2, none⟩ = some (.bool s.wr) := hcell _ _ ((segL_at l k s hs 2 (by decide)).trans rfl)
      have q0 : wr.cell? ⟨g2, k * 3, none⟩ = some (.int .u32 (s.at' : Nat)) := hcel2 _ _ ((segL_at l k s hs 0 (by decide)).trans rfl)
      have q1 : wr.cell? ⟨g2, k * 3 + 1, none⟩ = some (.int .i64 s.n) := hcel2 _ _ ((segL_at l k s hs 1 (by decide)).trans rfl)
      have q2 : wr.cell? ⟨g2, k * 3 + 2, none⟩ = some (.bool s.wr) := hcel2 _ _ ((segL_at l k s hs 2 (by decide)).trans rfl)
      have hlt' : (k : Int) < (n : Int) := by omega
      generalize s.at' = a0 at *
      generalize s.n = a1 at *
      generalize s.wr = a2 at *
      clear hs hve hve2 hcell hcel2
      go_wp2
      go_quiet (fail)
      go_wp2
      go_roundw
      case rel => exact ⟨k + 1, hlt, by go_num, below_dn hb _⟩
      case measure => simp [intOf]; omega
    · obtain rfl : k = n := by omega
      go_wp2
      go_ret
      exact ⟨rfl, hb⟩
end Go.Proofs.YtghpjibjhaomoaaGreatDoor
namespace Go.Proofs.YtghpjibjhaomoaaGreatDoor
open Go.RowKit
set_option linter.unusedVariables false
set_option linter.unusedSimpArgs false

set_option maxHeartbeats 1000000 in
theorem drd_ok {w : World} {N n : Nat} {f : Nat → Nat} {r : RP} (h : RefAt w N n f r) (a j : Nat) (ha : a < 4294967296) (hj : 0 < j) (hin : a + j ≤ N) :
    Calls Tryz.prog 42 #[.agg (r.v N n), .int .u32 (a : Nat), .int .i64 (j : Nat)] w fun e w' => e = .returned (.tuple #[.slice (some ⟨r.gB, a, none⟩) j (r.cB - a), .int .i64 0]) ∧ Below w.heap.size w w' := by
  have hN9 : N ≤ 67108864 := by have := h.few; omega
  have hcp := h.capB
  unfold maxLen at hcp
  obtain ⟨hc1, hc2⟩ := hcp
  clear h
  unfold RP.v
  generalize r.gB = gB at *
  generalize r.gD = gD at *
  generalize r.cB = cB at *
  generalize r.cD = cD at *
  generalize r.wr = wr at *
  have t0 : decide ((j : Int) < 0) = false := decide_eq_false (by omega)
  have t1 : decide ((N : Int) < (j : Int)) = false := decide_eq_false (by omega)
  have t1' : decide (N < j) = false := decide_eq_false (by omega)
  have t2 : decide ((N : Int) - (j : Int) < (a : Int)) = false := decide_eq_false (by omega)
  have g1 : (a : Int) + (j : Int) ≤ (N : Int) := by omega
  have g2 : (N : Int) ≤ (cB : Int) := by omega
  go_enter Tryz.func42, Tryz.ntmps42
  go_wp2
  go_ret2
  refine ⟨?_, below_one _ _⟩
  show Ending.returned (.tuple #[.slice (some ⟨gB, a, none⟩) (a + j - a) (cB - a), .int .i64 0]) = _
  rw [show a + j - a = j by omega]
variable {ops : Array Oper} {rest : List Oper} {dst : Option Tmp} {ty : TypeId} {pos : String} {after : Array Edge} {a : Act} {w : World} {Q : Exit → Act → World → Prop} {x y : Operand} {B : Nat} {v : Value} in
theorem app_bo (l m : List Nat) (n N sc : Nat) (hn : l.length = n) (hm : m.length = N) (hown : w.ownsRow B 5 1 v n (byteV l)) (s so : Nat) (hs : ∀ (j : Nat) (u : Value), (byteV m)[j]? = some u → w.cell? ⟨s, so + j, none⟩ = some u) (hl : n + N ≤ 140737488355328) (hB : B ≤ w.heap.size) (hx : a.eval x = v) (hy : a.eval y = .slice (some ⟨s, so, none⟩) N sc)
    (k : ∀ W v', W.ownsRow B 5 1 v' (n + N) (byteV (l ++ m)) → w.grownBy W v.ownBlock → (v'.ownBlock = v.ownBlock ∨ v'.ownBlock = some w.heap.size) → wpList Tryz.prog ops Q rest (a.put dst v') W) :
    wpList Tryz.prog ops Q (⟨dst, .call { callee := .builtin .append, args := #[x, y], argTypes := #[28, 28] }, 28, pos, after, none⟩ :: rest) a w := by
  obtain ⟨i, h1, h2, h3, h4⟩ := info_b
  refine op_appl 28 5 i _ 1 1 Tryz.underlying28 h1 h2 h3 h4 rfl (by decide) hown ⟨s, so, none⟩ N sc (byteV m) (by rw [byteV_len, hm]; omega) ?_ (byteV_one _) (by unfold maxLen; omega) (by omega) hB hx hy ?_
  · intro j u hu
    rw [Addr.add_lit]
    exact hs j u hu
  · intro W v' q1 q2 q3
    rw [← byteV_append] at q1
    exact k W v' q1 q2 q3
def gdF (f : Nat → Nat) (l : List Sg) : List Nat := l.flatMap fun s => if s.wr then [] else segF f s
theorem gdF_app (f : Nat → Nat) (l m : List Sg) : gdF f (l ++ m) = gdF f l ++ gdF f m := by simp [gdF]
theorem gdF_len {f : Nat → Nat} : ∀ (l : List Sg), (∀ s ∈ l, inS 2 s = true) → (gdF f l).length ≤ l.length * 8192
  | [], _ => Nat.zero_le _
  | s :: t, h => by
    have ih := gdF_len (f := f) t (fun x hx => h x (List.mem_cons_of_mem _ hx))
    have hs := of_decide_eq_true (h s (List.mem_cons_self ..))
    have e : gdF f (s :: t) = (if s.wr then [] else segF f s) ++ gdF f t := rfl
    rw [e, List.length_append, List.length_cons]
    have : (if s.wr = true then [] else segF f s).length ≤ 8192 := by
      split
      · exact Nat.zero_le _
      · rw [segF_len]; omega
    omega
variable {ops : Array Oper} {dst : Option Tmp} {ty : TypeId} {pos : String} {after : Array Edge} {a : Act} {x : Operand} {S : World → Prop} {gd : Option (Nat × Bool)}
theorem y_Rg (b : Nat) (r : RP) (hS : ∀ V, S V → RowAt V b (r.v 8192 2) 31) (hx : a.eval x = .pointer (some ⟨b, 0, none⟩)) (hw : Region.wanted ⟨dst, .load 31 x, ty, pos, after, gd⟩ (yielded ops a.tmps) = true) :
    YieldsIf Tryz.prog ops S ⟨dst, .load 31 x, ty, pos, after, gd⟩ (.agg (r.v 8192 2)) a := by
  rcases y_load (ops := ops) (P := Tryz.prog) (t := 31) (dst := dst) (ty := ty) (after := after) (a := a) (x := x) (pos := pos) (S := S) b (r.v 8192 2) _ hS _ Tryz.underlying31 rfl size_R hx with ⟨_, h2⟩ | ⟨h1, _⟩
  · exact .inl ⟨hw, fun V hV => h2 V hV⟩
  · simp [Region.wanted] at h1
theorem y_cg {t : TypeId} (b j : Nat) (v : Value) (hS : ∀ V, S V → V.cell? ⟨b, j, none⟩ = some v) (d : TypeDesc) (hu : Tryz.prog.underlying t = some d) (hd : d.isRow = false) (hx : a.eval x = .pointer (some ⟨b, j, none⟩)) (hw : Region.wanted ⟨dst, .load t x, ty, pos, after, gd⟩ (yielded ops a.tmps) = true) :
    YieldsIf Tryz.prog ops S ⟨dst, .load t x, ty, pos, after, gd⟩ v a := by
  rcases y_cell (ops := ops) (P := Tryz.prog) (t := t) (dst := dst) (ty := ty) (after := after) (a := a) (x := x) (pos := pos) (S := S) b j v hS d hu hd hx with ⟨_, h2⟩ | ⟨h1, _⟩
  · exact .inl ⟨hw, fun V hV => h2 V hV⟩
  · simp [Region.wanted] at h1
set_option maxRecDepth 20000 in
set_option maxHeartbeats 4000000 in
theorem dgath_ok (l : List Sg) (hl : l.length ≤ 256) (hw : ∀ s ∈ l, s.Ok ∧ 0 ≤ s.n ∧ inS 2 s = true) {w : World} {Bl : Nat} {v : Value} {f : Nat → Nat} {rp : RP} (h : RefAt w 8192 2 f rp) (hL : w.ownsRow Bl 100 3 v l.length (segL l)) :
    Calls Tryz.prog 17 #[.agg (rp.v 8192 2), v] w fun e w' => Below w.heap.size w w' ∧ ∃ v', e = .returned (.tuple #[v', .int .i64 0]) ∧ w'.ownsRow w.heap.size 5 1 v' (gdF f l).length (byteV (gdF f l)) := by
  have HL := hide hL
  have HREF := hide h
  obtain ⟨n, hn⟩ : ∃ n, l.length = n := ⟨_, rfl⟩
  have HN := hide hn
  rw [hn] at hl
  obtain ⟨av, cap, rfl, hc1, hc2⟩ := own_form hL
  rw [hn] at hc1 ⊢
  have HGL := hide (fun k => gdF_len (f := f) (l.take k) (fun s hs => (hw s (List.mem_of_mem_take hs)).2.2))
  clear hL h hn
  go_enter Tryz.func17, Tryz.ntmps17
  go_wp2_with (first | ((with_reducible refine bx_Rv w.heap.size rp ?_ ?_ ?_); exact rfl; exact rfl; intro W hm hb hz))
  go_loopw [6, 7] (fun ov iv wr => ∃ (k : Nat), k ≤ n ∧ iv = .int .i64 (k : Nat) ∧ wr.ownsRow (w.heap.size + 1) 5 1 ov (gdF f (l.take k)).length (byteV (gdF f (l.take k))) ∧ RowAt wr w.heap.size (rp.v 8192 2) 31 ∧ Below w.heap.size w wr ∧ w.heap.size + 1 ≤ wr.heap.size) (fun ov iv _ => n - (intOf iv).toNat)
  case atStart => exact ⟨0, Nat.zero_le _, rfl, World.ownsRow_nil _ _ _ _, hm, hb, Nat.le_of_eq hz.out.symm⟩
  case round =>
    clear hm hb hz
    obtain ⟨k, hk, rfl, hO, hm, hb, hS⟩ := hrel
    obtain ⟨gl, hgl⟩ : ∃ x, (gdF f (l.take k)).length = x := ⟨_, rfl⟩
    have hgb : gl ≤ 256 * 8192 := by
      have := HGL.out k
      rw [hgl, List.length_take] at this
      have h2 : min k l.length ≤ 256 := by rw [HN.out]; omega
      exact Nat.le_trans this (Nat.mul_le_mul_right _ h2)
    rw [hgl] at hO
    have HGLn := hide hgl
    obtain ⟨ov, oc, rfl, ho1, ho2⟩ := own_form hO
    clear hgl
    by_cases hlt : k < n
    · obtain ⟨gb, cap', hve, _, _, _, hgbl, hcell⟩ := own_pos HL.out (show 0 < l.length by rw [HN.out]; omega)
      obtain ⟨rfl, rfl⟩ : av = some ⟨gb, 0, none⟩ ∧ cap = cap' := by injection hve with e1 e2 e3; exact ⟨e1, e3⟩
      obtain ⟨s, hs⟩ : ∃ s, l[k]? = some s := ⟨_, List.getElem?_eq_getElem (by rw [HN.out]; exact hlt)⟩
      have hc0 : ∀ V, Below w.heap.size w V → V.cell? ⟨gb, k * 3, none⟩ = some (.int .u32 (s.at' : Nat)) := fun V hV => (hV.cell (p := ⟨gb, k * 3, none⟩) hgbl).trans (hcell _ _ ((segL_at l k s hs 0 (by decide)).trans rfl))
      have hcn : ∀ V, Below w.heap.size w V → V.cell? ⟨gb, k * 3 + 1, none⟩ = some (.int .i64 s.n) := fun V hV => (hV.cell (p := ⟨gb, k * 3 + 1, none⟩) hgbl).trans (hcell _ _ ((segL_at l k s hs 1 (by decide)).trans rfl))
      have hcw : ∀ V, Below w.heap.size w V → V.cell? ⟨gb, k * 3 + 2, none⟩ = some (.bool s.wr) := fun V hV => (hV.cell (p := ⟨gb, k * 3 + 2, none⟩) hgbl).trans (hcell _ _ ((segL_at l k s hs 2 (by decide)).trans rfl))
      obtain ⟨hok, hps, hin⟩ := hw s (List.mem_of_getElem? hs)
      obtain ⟨N, hN⟩ := Int.eq_ofNat_of_zero_le hps
      have hNt : s.n.toNat = N := by omega
      have ht1 : gdF f (l.take (k + 1)) = gdF f (l.take k) ++ (if s.wr then [] else segF f s) := by rw [List.take_add_one, hs, gdF_app]; simp [gdF]
      have HT1 := hide ht1
      have hinB : plB 2 s.at' N = true := by unfold inS at hin; rwa [hNt] at hin
      have hNl : N ≤ 8192 := by have := of_decide_eq_true hinB; omega
      have hsl := segF_len f s
      rw [hNt] at hsl
      have HTH : Hid (∀ W, Calls Tryz.prog 39 #[.agg (rp.v 8192 2), .int .u32 (s.at' : Nat), .int .i64 (N : Nat)] W fun e w' => e = .returned (.bool true) ∧ Below W.heap.size W w') := hide (fun W => by have := dthere_any (w := W) rp s.at' N hok.at' (by omega); rwa [hinB] at this)
      have hlt' : (k : Int) < (n : Int) := by omega
      have hatl := hok.at'
      have w2 := hcw wr hb
      have w1 := hcn wr hb
      rw [hN] at w1 hcn
      have HC0 := hide hc0
      have HCN := hide hcn
      have hlv : ∀ x, (Value.slice ov gl oc).ownBlock = some x → w.heap.size + 1 ≤ x ∧ x < wr.heap.size := fun x hx => hO.lt x hx
      clear hs hve hcell ht1 hok hin hps hc0 hcn hcw
      by_cases hsk : s.wr = true ∨ N = 0
      · have hnil : (if s.wr = true then [] else segF f s) = [] := by
          split
          · rfl
          · exact List.eq_nil_of_length_eq_zero (by rw [hsl]; exact hsk.resolve_left (by assumption))
        rw [hnil, List.append_nil] at HT1
        rcases hsk with hsw | hsw
        · rw [hsw] at w2
          go_wp2
          go_roundw
          case rel => exact ⟨k + 1, hlt, by go_num, by rw [HT1.out, HGLn.out]; exact hO, hm, hb, hS⟩
          case measure => simp [intOf]; omega
        · subst hsw
          obtain ⟨sw, hsw⟩ : ∃ x, s.wr = x := ⟨_, rfl⟩
          rw [hsw] at w2
          cases sw
          all_goals
            go_wp2
            go_roundw
            case rel => exact ⟨k + 1, hlt, by go_num, by rw [HT1.out, HGLn.out]; exact hO, hm, hb, hS⟩
            case measure => simp [intOf]; omega
      · have hsw : s.wr = false := by
          cases e : s.wr
          · rfl
          · exact absurd (.inl e) hsk
        have hN0 : 0 < N := Nat.pos_of_ne_zero (fun e => hsk (.inr e))
        rw [if_neg (by rw [hsw]; decide)] at HT1
        rw [hsw] at w2
        have hin2 := plB_in hinB hN0
        have hx31 : 2147483648 ≤ s.at' := by unfold plM at hin2; split at hin2 <;> omega
        have hpm : plM s.at' = s.at' - 2147483648 := by unfold plM; rw [if_pos hx31]
        have tN : ((N : Int) == 0) = false := by simp; omega
        have tn : decide ((N : Int) < 0) = false := by simp
        have HSF : Hid (∀ (V : World), Below w.heap.size w V → ∀ (j : Nat) (u : Value), (byteV (segF f s))[j]? = some u → V.cell? ⟨rp.gB, plM s.at' + j, none⟩ = some u) := hide (fun V hV j u hu => by
          have hjl : j < N := by have := (List.getElem?_eq_some_iff.1 hu).1; rwa [byteV_len, hsl] at this
          rw [(HREF.out.bl hV).bytes.cell (show plM s.at' + j < 8192 by omega)]
          rw [byteV, List.getElem?_map, segF_at (by rw [hNt]; exact hjl)] at hu
          exact hu)
        have HRD : Hid (∀ W, Below w.heap.size w W → Calls Tryz.prog 42 #[.agg (rp.v 8192 2), .int .u32 (plM s.at' : Nat), .int .i64 (N : Nat)] W fun e w' => e = .returned (.tuple #[.slice (some ⟨rp.gB, plM s.at', none⟩) N (rp.cB - plM s.at'), .int .i64 0]) ∧ Below W.heap.size W w') := hide (fun W hb => drd_ok (HREF.out.bl hb) (plM s.at') N (by omega) hN0 (by omega))
        have e6 : Hid (IntKind.u32.wrap ((s.at' : Int) - 2147483648) = ((plM s.at' : Nat) : Int)) := hide (by rw [IntKind.wrap_u32, hpm]; omega)
        generalize plM s.at' = pa at *
        generalize s.at' = at0 at *
        clear hsk hx31 hpm hin2 hinB hNt
        go_wp2_with (fail)
        refine wp_region_held_drew (S := (fun V => RowAt V w.heap.size (rp.v 8192 2) 31 ∧ Below w.heap.size w V)) (by kernel_rfl) ?_ (fun hHeld => ?_)
        · exact ⟨hm.dr, hb.drew⟩
        replace hO := own_dr hO
        replace hS : w.heap.size + 1 ≤ (World.drew _).heap.size := hS
        generalize World.drew _ = V at hHeld hO hS ⊢
        clear hm hb
        refine wpAnyH_take (i := 0) (oi := ?oi1) (v := .slice (some ⟨gb, 0, none⟩) n cap) ?hi1 (by kernel_rfl) (by kernel_rfl) (by kernel_rfl) ?hQ1 ?hy1 (by assumption) ?rest1
        case hi1 => (simp only [List.getElem?_toArray, List.getElem?_cons_zero]; rfl)
        case hQ1 => exact fun _ _ _ h => h
        case hy1 => exact Or.inl ⟨by rfl, by (intro w hSw; (try dsimp only at hSw); go_simp )⟩
        simp only [Act.put, List.setIfInBounds_toArray, List.set_cons_zero, List.set_cons_succ]
        refine wpAnyH_take (i := 1) (oi := ?oi2) (v := .int .i64 (k : Nat)) ?hi2 (by kernel_rfl) (by kernel_rfl) (by kernel_rfl) ?hQ2 ?hy2 (by assumption) ?rest2
        case hi2 => (simp only [List.getElem?_toArray, List.getElem?_cons_zero, List.getElem?_cons_succ]; rfl)
        case hQ2 => exact fun _ _ _ h => h
        case hy2 => exact Or.inl ⟨by rfl, by (intro w hSw; (try dsimp only at hSw); go_simp )⟩
        simp only [Act.put, List.setIfInBounds_toArray, List.set_cons_zero, List.set_cons_succ]
        refine wpAnyH_take (i := 2) (oi := ?oi3) (v := .pointer (some ⟨gb, k * 3, none⟩)) ?hi3 (by kernel_rfl) (by kernel_rfl) (by kernel_rfl) ?hQ3 ?hy3 (by assumption) ?rest3
        case hi3 => (simp only [List.getElem?_toArray, List.getElem?_cons_zero, List.getElem?_cons_succ]; rfl)
        case hQ3 => exact fun _ _ _ h => h
        case hy3 => exact Or.inl ⟨by rfl, by (intro w hSw; (try dsimp only at hSw); go_simp )⟩
        simp only [Act.put, List.setIfInBounds_toArray, List.set_cons_zero, List.set_cons_succ]
        refine wpAnyH_take (i := 3) (oi := ?oi4) (v := .pointer (some ⟨gb, k * 3 + 1, none⟩)) ?hi4 (by kernel_rfl) (by kernel_rfl) (by kernel_rfl) ?hQ4 ?hy4 (by assumption) ?rest4
        case hi4 => (simp only [List.getElem?_toArray, List.getElem?_cons_zero, List.getElem?_cons_succ]; rfl)
        case hQ4 => exact fun _ _ _ h => h
        case hy4 => exact Or.inl ⟨by rfl, by (intro w hSw; (try dsimp only at hSw); go_simp )⟩
        simp only [Act.put, List.setIfInBounds_toArray, List.set_cons_zero, List.set_cons_succ]
        refine wpAnyH_take (i := 4) (oi := ?oi5) (v := .int .i64 (N : Nat)) ?hi5 (by kernel_rfl) (by kernel_rfl) (by kernel_rfl) ?hQ5 ?hy5 (by assumption) ?rest5
        case hi5 => (simp only [List.getElem?_toArray, List.getElem?_cons_zero, List.getElem?_cons_succ]; rfl)
        case hQ5 => exact fun _ _ _ h => h
        case hy5 => exact y_cg gb (k * 3 + 1) _ (fun V hV => HCN.out V hV.2) _ Tryz.underlying3 rfl rfl rfl
        simp only [Act.put, List.setIfInBounds_toArray, List.set_cons_zero, List.set_cons_succ]
        refine wpAnyH_take (i := 5) (oi := ?oi6) (v := .bool false) ?hi6 (by kernel_rfl) (by kernel_rfl) (by kernel_rfl) ?hQ6 ?hy6 (by assumption) ?rest6
        case hi6 => (simp only [List.getElem?_toArray, List.getElem?_cons_zero, List.getElem?_cons_succ]; rfl)
        case hQ6 => exact fun _ _ _ h => h
        case hy6 => exact Or.inl ⟨by rfl, by (intro w hSw; (try dsimp only at hSw); go_simp )⟩
        simp only [Act.put, List.setIfInBounds_toArray, List.set_cons_zero, List.set_cons_succ]
        refine wpAnyH_take (i := 6) (oi := ?oi7) (v := .bool false) ?hi7 (by kernel_rfl) (by kernel_rfl) (by kernel_rfl) ?hQ7 ?hy7 (by assumption) ?rest7
        case hi7 => (simp only [List.getElem?_toArray, List.getElem?_cons_zero, List.getElem?_cons_succ]; rfl)
        case hQ7 => exact fun _ _ _ h => h
        case hy7 => exact Or.inl ⟨by rfl, by (intro w hSw; (try dsimp only at hSw); go_simp )⟩
        simp only [Act.put, List.setIfInBounds_toArray, List.set_cons_zero, List.set_cons_succ]
        refine wpAnyH_take (i := 7) (oi := ?oi8) (v := .agg (rp.v 8192 2)) ?hi8 (by kernel_rfl) (by kernel_rfl) (by kernel_rfl) ?hQ8 ?hy8 (by assumption) ?rest8
        case hi8 => (simp only [List.getElem?_toArray, List.getElem?_cons_zero, List.getElem?_cons_succ]; rfl)
        case hQ8 => exact fun _ _ _ h => h
        case hy8 => exact y_Rg w.heap.size rp (fun V hV => hV.1) rfl rfl
        simp only [Act.put, List.setIfInBounds_toArray, List.set_cons_zero, List.set_cons_succ]
        refine wpAnyH_take (i := 8) (oi := ?oi9) (v := .slice (some ⟨gb, 0, none⟩) n cap) ?hi9 (by kernel_rfl) (by kernel_rfl) (by kernel_rfl) ?hQ9 ?hy9 (by assumption) ?rest9
        case hi9 => (simp only [List.getElem?_toArray, List.getElem?_cons_zero, List.getElem?_cons_succ]; rfl)
        case hQ9 => exact fun _ _ _ h => h
        case hy9 => exact Or.inl ⟨by rfl, by (intro w hSw; (try dsimp only at hSw); go_simp )⟩
        simp only [Act.put, List.setIfInBounds_toArray, List.set_cons_zero, List.set_cons_succ]
        refine wpAnyH_take (i := 9) (oi := ?oi10) (v := .int .i64 (k : Nat)) ?hi10 (by kernel_rfl) (by kernel_rfl) (by kernel_rfl) ?hQ10 ?hy10 (by assumption) ?rest10
        case hi10 => (simp only [List.getElem?_toArray, List.getElem?_cons_zero, List.getElem?_cons_succ]; rfl)
        case hQ10 => exact fun _ _ _ h => h
        case hy10 => exact Or.inl ⟨by rfl, by (intro w hSw; (try dsimp only at hSw); go_simp )⟩
        simp only [Act.put, List.setIfInBounds_toArray, List.set_cons_zero, List.set_cons_succ]
        refine wpAnyH_take (i := 10) (oi := ?oi11) (v := .pointer (some ⟨gb, k * 3, none⟩)) ?hi11 (by kernel_rfl) (by kernel_rfl) (by kernel_rfl) ?hQ11 ?hy11 (by assumption) ?rest11
        case hi11 => (simp only [List.getElem?_toArray, List.getElem?_cons_zero, List.getElem?_cons_succ]; rfl)
        case hQ11 => exact fun _ _ _ h => h
        case hy11 => exact Or.inl ⟨by rfl, by (intro w hSw; (try dsimp only at hSw); go_simp )⟩
        simp only [Act.put, List.setIfInBounds_toArray, List.set_cons_zero, List.set_cons_succ]
        refine wpAnyH_take (i := 11) (oi := ?oi12) (v := .pointer (some ⟨gb, k * 3, none⟩)) ?hi12 (by kernel_rfl) (by kernel_rfl) (by kernel_rfl) ?hQ12 ?hy12 (by assumption) ?rest12
        case hi12 => (simp only [List.getElem?_toArray, List.getElem?_cons_zero, List.getElem?_cons_succ]; rfl)
        case hQ12 => exact fun _ _ _ h => h
        case hy12 => exact Or.inl ⟨by rfl, by (intro w hSw; (try dsimp only at hSw); go_simp )⟩
        simp only [Act.put, List.setIfInBounds_toArray, List.set_cons_zero, List.set_cons_succ]
        refine wpAnyH_take (i := 12) (oi := ?oi13) (v := .int .u32 (at0 : Nat)) ?hi13 (by kernel_rfl) (by kernel_rfl) (by kernel_rfl) ?hQ13 ?hy13 (by assumption) ?rest13
        case hi13 => (simp only [List.getElem?_toArray, List.getElem?_cons_zero, List.getElem?_cons_succ]; rfl)
        case hQ13 => exact fun _ _ _ h => h
        case hy13 => exact y_cg gb (k * 3) _ (fun V hV => HC0.out V hV.2) _ Tryz.underlying22 rfl rfl rfl
        simp only [Act.put, List.setIfInBounds_toArray, List.set_cons_zero, List.set_cons_succ]
        refine wpAnyH_take (i := 13) (oi := ?oi14) (v := .slice (some ⟨gb, 0, none⟩) n cap) ?hi14 (by kernel_rfl) (by kernel_rfl) (by kernel_rfl) ?hQ14 ?hy14 (by assumption) ?rest14
        case hi14 => (simp only [List.getElem?_toArray, List.getElem?_cons_zero, List.getElem?_cons_succ]; rfl)
        case hQ14 => exact fun _ _ _ h => h
        case hy14 => exact Or.inl ⟨by rfl, by (intro w hSw; (try dsimp only at hSw); go_simp )⟩
        simp only [Act.put, List.setIfInBounds_toArray, List.set_cons_zero, List.set_cons_succ]
        refine wpAnyH_take (i := 14) (oi := ?oi15) (v := .int .i64 (k : Nat)) ?hi15 (by kernel_rfl) (by kernel_rfl) (by kernel_rfl) ?hQ15 ?hy15 (by assumption) ?rest15
        case hi15 => (simp only [List.getElem?_toArray, List.getElem?_cons_zero, List.getElem?_cons_succ]; rfl)
        case hQ15 => exact fun _ _ _ h => h
        case hy15 => exact Or.inl ⟨by rfl, by (intro w hSw; (try dsimp only at hSw); go_simp )⟩
        simp only [Act.put, List.setIfInBounds_toArray, List.set_cons_zero, List.set_cons_succ]
        refine wpAnyH_take (i := 15) (oi := ?oi16) (v := .pointer (some ⟨gb, k * 3, none⟩)) ?hi16 (by kernel_rfl) (by kernel_rfl) (by kernel_rfl) ?hQ16 ?hy16 (by assumption) ?rest16
        case hi16 => (simp only [List.getElem?_toArray, List.getElem?_cons_zero, List.getElem?_cons_succ]; rfl)
        case hQ16 => exact fun _ _ _ h => h
        case hy16 => exact Or.inl ⟨by rfl, by (intro w hSw; (try dsimp only at hSw); go_simp )⟩
        simp only [Act.put, List.setIfInBounds_toArray, List.set_cons_zero, List.set_cons_succ]
        refine wpAnyH_take (i := 16) (oi := ?oi17) (v := .pointer (some ⟨gb, k * 3 + 1, none⟩)) ?hi17 (by kernel_rfl) (by kernel_rfl) (by kernel_rfl) ?hQ17 ?hy17 (by assumption) ?rest17
        case hi17 => (simp only [List.getElem?_toArray, List.getElem?_cons_zero, List.getElem?_cons_succ]; rfl)
        case hQ17 => exact fun _ _ _ h => h
        case hy17 => exact Or.inl ⟨by rfl, by (intro w hSw; (try dsimp only at hSw); go_simp )⟩
        simp only [Act.put, List.setIfInBounds_toArray, List.set_cons_zero, List.set_cons_succ]
        refine wpAnyH_take (i := 17) (oi := ?oi18) (v := .int .i64 (N : Nat)) ?hi18 (by kernel_rfl) (by kernel_rfl) (by kernel_rfl) ?hQ18 ?hy18 (by assumption) ?rest18
        case hi18 => (simp only [List.getElem?_toArray, List.getElem?_cons_zero, List.getElem?_cons_succ]; rfl)
        case hQ18 => exact fun _ _ _ h => h
        case hy18 => exact y_cg gb (k * 3 + 1) _ (fun V hV => HCN.out V hV.2) _ Tryz.underlying3 rfl rfl rfl
        simp only [Act.put, List.setIfInBounds_toArray, List.set_cons_zero, List.set_cons_succ]
        refine wpAnyH_ready (rs := [18]) (by kernel_rfl) (by simp) ?_
        refine AllReadyH.cons (o := ?oi19) ?hi19 (fun K hK => ?_) AllReadyH.nil
        case hi19 => (simp only [List.getElem?_toArray, List.getElem?_cons_zero, List.getElem?_cons_succ]; rfl)
        rw [if_pos (by rfl)]
        go_simp
        (with_reducible refine (HTH.out _).mono ?_)
        rintro e V2 ⟨rfl, hbc⟩
        have hH2 := hide (And.intro (hHeld.1.bl hbc) (hHeld.2.trans (hbc.mono hHeld.2.size)))
        replace hO := own_bel hO hbc
        replace hS := Nat.le_trans hS hbc.size
        clear hHeld hbc
        go_simp
        refine hK.out _ _ ?_ (fun hHeld => ?_)
        · exact hH2.out
        clear hK K
        clear hH2
        refine wpAnyH_take (i := 19) (oi := ?oi20) (v := .bool false) ?hi20 (by kernel_rfl) (by kernel_rfl) (by kernel_rfl) ?hQ20 ?hy20 (by assumption) ?rest20
        case hi20 => (simp only [List.getElem?_toArray, List.getElem?_cons_zero, List.getElem?_cons_succ]; rfl)
        case hQ20 => exact fun _ _ _ h => h
        case hy20 => exact Or.inl ⟨by rfl, by (intro w hSw; (try dsimp only at hSw); go_simp )⟩
        simp only [Act.put, List.setIfInBounds_toArray, List.set_cons_zero, List.set_cons_succ]
        refine wpAnyH_take (i := 20) (oi := ?oi21) (v := .bool false) ?hi21 (by kernel_rfl) (by kernel_rfl) (by kernel_rfl) ?hQ21 ?hy21 (by assumption) ?rest21
        case hi21 => (simp only [List.getElem?_toArray, List.getElem?_cons_zero, List.getElem?_cons_succ]; rfl)
        case hQ21 => exact fun _ _ _ h => h
        case hy21 => exact Or.inl ⟨by rfl, by (intro w hSw; (try dsimp only at hSw); go_simp )⟩
        simp only [Act.put, List.setIfInBounds_toArray, List.set_cons_zero, List.set_cons_succ]
        refine wpAnyH_done (by kernel_rfl) ?_ _
        obtain ⟨hm, hb⟩ := hHeld
        go_wp2_with (fail)
        refine wp_region_held_drew (S := (fun V => RowAt V w.heap.size (rp.v 8192 2) 31 ∧ Below w.heap.size w V)) (by kernel_rfl) ?_ (fun hHeld => ?_)
        · exact ⟨hm.dr, hb.drew⟩
        replace hO := own_dr hO
        replace hS : w.heap.size + 1 ≤ (World.drew _).heap.size := hS
        generalize World.drew _ = V at hHeld hO hS ⊢
        clear hm hb
        refine wpAnyH_take (i := 0) (oi := ?oi22) (v := .agg (rp.v 8192 2)) ?hi22 (by kernel_rfl) (by kernel_rfl) (by kernel_rfl) ?hQ22 ?hy22 (by assumption) ?rest22
        case hi22 => (simp only [List.getElem?_toArray, List.getElem?_cons_zero]; rfl)
        case hQ22 => exact fun _ _ _ h => h
        case hy22 => exact y_Rg w.heap.size rp (fun V hV => hV.1) rfl rfl
        simp only [Act.put, List.setIfInBounds_toArray, List.set_cons_zero, List.set_cons_succ]
        refine wpAnyH_take (i := 1) (oi := ?oi23) (v := .slice (some ⟨gb, 0, none⟩) n cap) ?hi23 (by kernel_rfl) (by kernel_rfl) (by kernel_rfl) ?hQ23 ?hy23 (by assumption) ?rest23
        case hi23 => (simp only [List.getElem?_toArray, List.getElem?_cons_zero, List.getElem?_cons_succ]; rfl)
        case hQ23 => exact fun _ _ _ h => h
        case hy23 => exact Or.inl ⟨by rfl, by (intro w hSw; (try dsimp only at hSw); go_simp )⟩
        simp only [Act.put, List.setIfInBounds_toArray, List.set_cons_zero, List.set_cons_succ]
        refine wpAnyH_take (i := 2) (oi := ?oi24) (v := .int .i64 (k : Nat)) ?hi24 (by kernel_rfl) (by kernel_rfl) (by kernel_rfl) ?hQ24 ?hy24 (by assumption) ?rest24
        case hi24 => (simp only [List.getElem?_toArray, List.getElem?_cons_zero, List.getElem?_cons_succ]; rfl)
        case hQ24 => exact fun _ _ _ h => h
        case hy24 => exact Or.inl ⟨by rfl, by (intro w hSw; (try dsimp only at hSw); go_simp )⟩
        simp only [Act.put, List.setIfInBounds_toArray, List.set_cons_zero, List.set_cons_succ]
        refine wpAnyH_take (i := 3) (oi := ?oi25) (v := .pointer (some ⟨gb, k * 3, none⟩)) ?hi25 (by kernel_rfl) (by kernel_rfl) (by kernel_rfl) ?hQ25 ?hy25 (by assumption) ?rest25
        case hi25 => (simp only [List.getElem?_toArray, List.getElem?_cons_zero, List.getElem?_cons_succ]; rfl)
        case hQ25 => exact fun _ _ _ h => h
        case hy25 => exact Or.inl ⟨by rfl, by (intro w hSw; (try dsimp only at hSw); go_simp )⟩
        simp only [Act.put, List.setIfInBounds_toArray, List.set_cons_zero, List.set_cons_succ]
        refine wpAnyH_take (i := 4) (oi := ?oi26) (v := .pointer (some ⟨gb, k * 3, none⟩)) ?hi26 (by kernel_rfl) (by kernel_rfl) (by kernel_rfl) ?hQ26 ?hy26 (by assumption) ?rest26
        case hi26 => (simp only [List.getElem?_toArray, List.getElem?_cons_zero, List.getElem?_cons_succ]; rfl)
        case hQ26 => exact fun _ _ _ h => h
        case hy26 => exact Or.inl ⟨by rfl, by (intro w hSw; (try dsimp only at hSw); go_simp )⟩
        simp only [Act.put, List.setIfInBounds_toArray, List.set_cons_zero, List.set_cons_succ]
        refine wpAnyH_take (i := 5) (oi := ?oi27) (v := .int .u32 (at0 : Nat)) ?hi27 (by kernel_rfl) (by kernel_rfl) (by kernel_rfl) ?hQ27 ?hy27 (by assumption) ?rest27
        case hi27 => (simp only [List.getElem?_toArray, List.getElem?_cons_zero, List.getElem?_cons_succ]; rfl)
        case hQ27 => exact fun _ _ _ h => h
        case hy27 => exact y_cg gb (k * 3) _ (fun V hV => HC0.out V hV.2) _ Tryz.underlying22 rfl rfl rfl
        simp only [Act.put, List.setIfInBounds_toArray, List.set_cons_zero, List.set_cons_succ]
        refine wpAnyH_take (i := 6) (oi := ?oi28) (v := .int .u32 (pa : Nat)) ?hi28 (by kernel_rfl) (by kernel_rfl) (by kernel_rfl) ?hQ28 ?hy28 (by assumption) ?rest28
        case hi28 => (simp only [List.getElem?_toArray, List.getElem?_cons_zero, List.getElem?_cons_succ]; rfl)
        case hQ28 => exact fun _ _ _ h => h
        case hy28 => exact Or.inl ⟨by rfl, by (intro w hSw; (try dsimp only at hSw); go_simp ; exact e6.out)⟩
        simp only [Act.put, List.setIfInBounds_toArray, List.set_cons_zero, List.set_cons_succ]
        refine wpAnyH_take (i := 7) (oi := ?oi29) (v := .slice (some ⟨gb, 0, none⟩) n cap) ?hi29 (by kernel_rfl) (by kernel_rfl) (by kernel_rfl) ?hQ29 ?hy29 (by assumption) ?rest29
        case hi29 => (simp only [List.getElem?_toArray, List.getElem?_cons_zero, List.getElem?_cons_succ]; rfl)
        case hQ29 => exact fun _ _ _ h => h
        case hy29 => exact Or.inl ⟨by rfl, by (intro w hSw; (try dsimp only at hSw); go_simp )⟩
        simp only [Act.put, List.setIfInBounds_toArray, List.set_cons_zero, List.set_cons_succ]
        refine wpAnyH_take (i := 8) (oi := ?oi30) (v := .int .i64 (k : Nat)) ?hi30 (by kernel_rfl) (by kernel_rfl) (by kernel_rfl) ?hQ30 ?hy30 (by assumption) ?rest30
        case hi30 => (simp only [List.getElem?_toArray, List.getElem?_cons_zero, List.getElem?_cons_succ]; rfl)
        case hQ30 => exact fun _ _ _ h => h
        case hy30 => exact Or.inl ⟨by rfl, by (intro w hSw; (try dsimp only at hSw); go_simp )⟩
        simp only [Act.put, List.setIfInBounds_toArray, List.set_cons_zero, List.set_cons_succ]
        refine wpAnyH_take (i := 9) (oi := ?oi31) (v := .pointer (some ⟨gb, k * 3, none⟩)) ?hi31 (by kernel_rfl) (by kernel_rfl) (by kernel_rfl) ?hQ31 ?hy31 (by assumption) ?rest31
        case hi31 => (simp only [List.getElem?_toArray, List.getElem?_cons_zero, List.getElem?_cons_succ]; rfl)
        case hQ31 => exact fun _ _ _ h => h
        case hy31 => exact Or.inl ⟨by rfl, by (intro w hSw; (try dsimp only at hSw); go_simp )⟩
        simp only [Act.put, List.setIfInBounds_toArray, List.set_cons_zero, List.set_cons_succ]
        refine wpAnyH_take (i := 10) (oi := ?oi32) (v := .pointer (some ⟨gb, k * 3 + 1, none⟩)) ?hi32 (by kernel_rfl) (by kernel_rfl) (by kernel_rfl) ?hQ32 ?hy32 (by assumption) ?rest32
        case hi32 => (simp only [List.getElem?_toArray, List.getElem?_cons_zero, List.getElem?_cons_succ]; rfl)
        case hQ32 => exact fun _ _ _ h => h
        case hy32 => exact Or.inl ⟨by rfl, by (intro w hSw; (try dsimp only at hSw); go_simp )⟩
        simp only [Act.put, List.setIfInBounds_toArray, List.set_cons_zero, List.set_cons_succ]
        refine wpAnyH_take (i := 11) (oi := ?oi33) (v := .int .i64 (N : Nat)) ?hi33 (by kernel_rfl) (by kernel_rfl) (by kernel_rfl) ?hQ33 ?hy33 (by assumption) ?rest33
        case hi33 => (simp only [List.getElem?_toArray, List.getElem?_cons_zero, List.getElem?_cons_succ]; rfl)
        case hQ33 => exact fun _ _ _ h => h
        case hy33 => exact y_cg gb (k * 3 + 1) _ (fun V hV => HCN.out V hV.2) _ Tryz.underlying3 rfl rfl rfl
        simp only [Act.put, List.setIfInBounds_toArray, List.set_cons_zero, List.set_cons_succ]
        refine wpAnyH_ready (rs := [12]) (by kernel_rfl) (by simp) ?_
        refine AllReadyH.cons (o := ?oi34) ?hi34 (fun K hK => ?_) AllReadyH.nil
        case hi34 => (simp only [List.getElem?_toArray, List.getElem?_cons_zero, List.getElem?_cons_succ]; rfl)
        rw [if_pos (by rfl)]
        go_simp
        (with_reducible refine (HRD.out _ hHeld.2).mono ?_)
        rintro e V2 ⟨rfl, hbc⟩
        have hH2 := hide (And.intro (hHeld.1.bl hbc) (hHeld.2.trans (hbc.mono hHeld.2.size)))
        replace hO := own_bel hO hbc
        replace hS := Nat.le_trans hS hbc.size
        clear hHeld hbc
        go_simp
        refine hK.out _ _ ?_ (fun hHeld => ?_)
        · exact hH2.out
        clear hK K
        clear hH2
        refine wpAnyH_take (i := 13) (oi := ?oi35) (v := .tuple #[.slice (some ⟨rp.gB, pa, none⟩) N (rp.cB - pa), .int .i64 0]) ?hi35 (by kernel_rfl) (by kernel_rfl) (by kernel_rfl) ?hQ35 ?hy35 (by assumption) ?rest35
        case hi35 => (simp only [List.getElem?_toArray, List.getElem?_cons_zero, List.getElem?_cons_succ]; rfl)
        case hQ35 => exact fun _ _ _ h => h
        case hy35 => exact Or.inl ⟨by rfl, by (intro w hSw; (try dsimp only at hSw); go_simp )⟩
        simp only [Act.put, List.setIfInBounds_toArray, List.set_cons_zero, List.set_cons_succ]
        refine wpAnyH_take (i := 14) (oi := ?oi36) (v := .slice (some ⟨rp.gB, pa, none⟩) N (rp.cB - pa)) ?hi36 (by kernel_rfl) (by kernel_rfl) (by kernel_rfl) ?hQ36 ?hy36 (by assumption) ?rest36
        case hi36 => (simp only [List.getElem?_toArray, List.getElem?_cons_zero, List.getElem?_cons_succ]; rfl)
        case hQ36 => exact fun _ _ _ h => h
        case hy36 => exact Or.inl ⟨by rfl, by (intro w hSw; (try dsimp only at hSw); go_simp )⟩
        simp only [Act.put, List.setIfInBounds_toArray, List.set_cons_zero, List.set_cons_succ]
        refine wpAnyH_take (i := 15) (oi := ?oi37) (v := .int .i64 0) ?hi37 (by kernel_rfl) (by kernel_rfl) (by kernel_rfl) ?hQ37 ?hy37 (by assumption) ?rest37
        case hi37 => (simp only [List.getElem?_toArray, List.getElem?_cons_zero, List.getElem?_cons_succ]; rfl)
        case hQ37 => exact fun _ _ _ h => h
        case hy37 => exact Or.inl ⟨by rfl, by (intro w hSw; (try dsimp only at hSw); go_simp )⟩
        simp only [Act.put, List.setIfInBounds_toArray, List.set_cons_zero, List.set_cons_succ]
        refine wpAnyH_take (i := 16) (oi := ?oi38) (v := .slice (some ⟨rp.gB, pa, none⟩) N (rp.cB - pa)) ?hi38 (by kernel_rfl) (by kernel_rfl) (by kernel_rfl) ?hQ38 ?hy38 (by assumption) ?rest38
        case hi38 => (simp only [List.getElem?_toArray, List.getElem?_cons_zero, List.getElem?_cons_succ]; rfl)
        case hQ38 => exact fun _ _ _ h => h
        case hy38 => exact Or.inl ⟨by rfl, by (intro w hSw; (try dsimp only at hSw); go_simp )⟩
        simp only [Act.put, List.setIfInBounds_toArray, List.set_cons_zero, List.set_cons_succ]
        refine wpAnyH_take (i := 17) (oi := ?oi39) (v := .int .i64 0) ?hi39 (by kernel_rfl) (by kernel_rfl) (by kernel_rfl) ?hQ39 ?hy39 (by assumption) ?rest39
        case hi39 => (simp only [List.getElem?_toArray, List.getElem?_cons_zero, List.getElem?_cons_succ]; rfl)
        case hQ39 => exact fun _ _ _ h => h
        case hy39 => exact Or.inl ⟨by rfl, by (intro w hSw; (try dsimp only at hSw); go_simp )⟩
        simp only [Act.put, List.setIfInBounds_toArray, List.set_cons_zero, List.set_cons_succ]
        refine wpAnyH_done (by kernel_rfl) ?_ _
        obtain ⟨hm, hb⟩ := hHeld
        go_wp2_with (first | ((with_reducible refine app_bo (gdF f (l.take k)) (segF f s) gl N (rp.cB - pa) HGLn.out hsl hO rp.gB pa (HSF.out _ hb) (by omega) hS ?_ ?_ ?_); exact rfl; exact rfl; intro W v' hL2 hg hbk; replace hm := grow_row hm hg (fun e => absurd (hlv _ e).1 (by omega)); have hwS := Nat.le_trans (Nat.le_succ _) hS; replace hb := grow_below hb hg hwS (fun x e => by have := (hlv x e).1; omega); replace hS := Nat.le_trans hS hg.size; clear hO hg hbk))
        go_roundw
        case rel => exact ⟨k + 1, hlt, by go_num, by (rw [HT1.out, List.length_append, HGLn.out, hsl]; exact hL2), hm, hb, hS⟩
        case measure => simp [intOf]; omega
    · obtain rfl : k = n := by omega
      have ht : l.take k = l := by rw [← HN.out, List.take_length]
      rw [ht] at HGLn hO
      go_wp2
      go_ret2
      exact ⟨hb, _, rfl, by rw [HGLn.out]; exact own_lower1 hO⟩
end Go.Proofs.YtghpjibjhaomoaaGreatDoor
