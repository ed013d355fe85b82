/-
  Two parts compared; a part out of a list.
-/
import Derived.Test.YtghpjibjhaomoaaGreatDoorJRiParts
import Derived.Test.YtghpjibjhaomoaaGreatDoorJMeRef4
import Derived.Laws.StructEq
import Derived.ChangeKeysEq
namespace Go.Proofs.YtghpjibjhaomoaaGreatDoor
open Go.RowKit
set_option linter.unusedVariables false
set_option linter.unusedSimpArgs false

theorem own_back {w V : World} {B e size n g cap : Nat} {xs : List Value} {cur : Array Value} (h : w.ownsRow B e size (.slice (some ⟨g, 0, none⟩) n cap) n xs) (hr : RowAt w g cur e) (hv : RowAt V g cur e) : V.ownsRow B e size (.slice (some ⟨g, 0, none⟩) n cap) n xs :=
  own_at h (fun g' e' => by cases e'; exact Eq.trans hv (Eq.symm hr))
/-- The bytes of a part. -/
def segF (f : Nat → Nat) (s : Sg) : List Nat := (List.range s.n.toNat).map fun j => f (plM s.at' + j)
/-- The bytes of parts, one behind the other. -/
def gathF (f : Nat → Nat) (l : List Sg) : List Nat := l.flatMap (segF f)
theorem segF_len (f : Nat → Nat) (s : Sg) : (segF f s).length = s.n.toNat := by simp [segF]
theorem segF_at {f : Nat → Nat} {s : Sg} {j : Nat} (h : j < s.n.toNat) : (segF f s)[j]? = some (f (plM s.at' + j)) := by simp [segF, h]
theorem gathF_app (f : Nat → Nat) (l m : List Sg) : gathF f (l ++ m) = gathF f l ++ gathF f m := by simp [gathF]
theorem gathF_one (f : Nat → Nat) (s : Sg) : gathF f [s] = segF f s := by simp [gathF]
theorem byteV_append (l m : List Nat) : byteV (l ++ m) = byteV l ++ byteV m := by simp [byteV]
theorem gathF_len {p : Nat} {f : Nat → Nat} (hp : p ≤ 16384) : ∀ (l : List Sg), (∀ s ∈ l, inS p s = true) → (gathF f l).length ≤ l.length * 67108864
  | [], _ => Nat.zero_le _
  | s :: t, h => by
    have ih := gathF_len (f := f) hp t (fun x hx => h x (List.mem_cons_of_mem _ hx))
    have hs := h s (List.mem_cons_self ..)
    have : gathF f (s :: t) = segF f s ++ gathF f t := rfl
    rw [this, List.length_append, segF_len, List.length_cons]
    have := of_decide_eq_true hs
    omega
theorem seg_src {W : World} {g : Nat} {f : Nat → Nat} {s : Sg} {N : Nat} (hN : s.n.toNat = N) (h : HoldsAt W g N 5 (fun j => .int .u8 (f (plM s.at' + j) : Nat))) (j : Nat) (u : Value) (hu : (byteV (segF f s))[j]? = some u) : W.cell? ⟨g, j, none⟩ = some u := by
  have hl : j < N := by
    have := (List.getElem?_eq_some_iff.1 hu).1
    rwa [byteV_len, segF_len, hN] at this
  rw [h.cell hl]
  rw [byteV, List.getElem?_map, segF_at (by rw [hN]; exact hl)] at hu
  exact hu
variable {ops : Array Oper} {rest : List Oper} {dst : Option Tmp} {ty : TypeId} {pos : String} {after : Array Edge} {a : Act} {w : World} {Q : Exit → Act → World → Prop} {x y : Operand} {B : Nat} {v : Value}
theorem info_b : ∃ i, Tryz.prog.info? 5 = some i ∧ i.zero = some (.int .u8 0) ∧ i.size = 1 ∧ i.bytes = 1 := info_parts (P := Tryz.prog) (e := 5) (z := .int .u8 0) (size := 1) (bytes := 1) (by kernel_rfl)
theorem app_b (l m : List Nat) (n N sc : Nat) (hn : l.length = n) (hm : m.length = N) (hown : w.ownsRow B 5 1 v n (byteV l)) (s : Nat) (hs : ∀ (j : Nat) (u : Value), (byteV m)[j]? = some u → w.cell? ⟨s, j, none⟩ = some u) (hl : n + N ≤ 140737488355328) (hB : B ≤ w.heap.size) (hx : a.eval x = v) (hy : a.eval y = .slice (some ⟨s, 0, none⟩) N sc)
    (k : ∀ W v', W.ownsRow B 5 1 v' (n + N) (byteV (l ++ m)) → w.grownBy W v.ownBlock → (v'.ownBlock = v.ownBlock ∨ v'.ownBlock = some w.heap.size) → wpList Tryz.prog ops Q rest (a.put dst v') W) :
    wpList Tryz.prog ops Q (⟨dst, .call { callee := .builtin .append, args := #[x, y], argTypes := #[28, 28] }, 28, pos, after, none⟩ :: rest) a w := by
  obtain ⟨i, h1, h2, h3, h4⟩ := info_b
  refine op_appl 28 5 i _ 1 1 Tryz.underlying28 h1 h2 h3 h4 rfl (by decide) hown ⟨s, 0, none⟩ N sc (byteV m) (by rw [byteV_len, hm]; omega) ?_ (byteV_one _) (by unfold maxLen; omega) (by omega) hB hx hy ?_
  · intro j u hu
    rw [Addr.add_lit, Nat.zero_add]
    exact hs j u hu
  · intro W v' q1 q2 q3
    rw [← byteV_append] at q1
    exact k W v' q1 q2 q3
set_option maxHeartbeats 1000000 in
theorem gath_no (l : List Sg) (hl : l.length ≤ 1000000) (hw : ∀ s ∈ l, s.Ok) {w : World} {B b p c Bl : Nat} {v : Value} {f : Nat → Nat} {O : Nat → Prop} (h : RamB w B b p f c O) (hA : AreasAt w) (hG : 1 < B) (hL : w.ownsRow Bl 70 3 v l.length (segL l)) (hi : (partsV false 9223372036854775807 l).all (inS p) = false) : Calls Tryz.prog 16 #[.pointer (some ⟨b, 0, none⟩), v] w fun e w' => e = .returned (.tuple #[.slice none 0 0, .iface 84 (.int .i64 22)]) ∧ Below w.heap.size w w' := by
  have HP : Hid (Calls Tryz.prog 40 #[.pointer (some ⟨b, 0, none⟩), v, .bool false, .int .i64 9223372036854775807] w fun e w' => Below w.heap.size w w' ∧ e = .returned (.tuple #[.slice none 0 0, .iface 84 (.int .i64 22)])) := hide ((parts_any l (by omega) hw false 9223372036854775807 (by decide) (by decide) h hA hL).mono (by
    rintro e w' ⟨hb, ⟨a1, _⟩ | ⟨_, a2⟩⟩
    · rw [hi] at a1; cases a1
    · exact ⟨hb, a2⟩))
  obtain ⟨av, cap, rfl, _, _⟩ := own_form hL
  clear h hA hL hi
  go_enter Tryz.func16, Tryz.ntmps16
  go_wp2_with (first | (go_at_call 40; (with_reducible refine HP.out.mono ?_); rintro e W ⟨hb, rfl⟩))
  go_ret2
  exact ⟨rfl, hb⟩
set_option maxRecDepth 20000 in
set_option maxHeartbeats 4000000 in
theorem gath_ok (l : List Sg) (hl : l.length ≤ 1000000) (hw : ∀ s ∈ l, s.Ok) {w : World} {B b p c Bl : Nat} {v : Value} {f : Nat → Nat} {O : Nat → Prop} (h : RamB w B b p f c O) (hA : AreasAt w) (hG : 1 < B) (hL : w.ownsRow Bl 70 3 v l.length (segL l)) (hi : (partsV false 9223372036854775807 l).all (inS p) = true) : Calls Tryz.prog 16 #[.pointer (some ⟨b, 0, none⟩), v] w fun e w' => ∃ O' v', e = .returned (.tuple #[v', .nilIface]) ∧ RamB w' B b p f c O' ∧ Went B O O' w w' ∧ w'.ownsRow w.heap.size 5 1 v' (gathF f (partsV false 9223372036854775807 l)).length (byteV (gathF f (partsV false 9223372036854775807 l))) ∧ ∀ g, v'.ownBlock = some g → ¬ O' g := by
  have HP : Hid (Calls Tryz.prog 40 #[.pointer (some ⟨b, 0, none⟩), v, .bool false, .int .i64 9223372036854775807] w fun e w' => Below w.heap.size w w' ∧ ∃ v', e = .returned (.tuple #[v', .nilIface]) ∧ w'.ownsRow w.heap.size 70 3 v' (partsV false 9223372036854775807 l).length (segL (partsV false 9223372036854775807 l))) := hide ((parts_any l (by omega) hw false 9223372036854775807 (by decide) (by decide) h hA hL).mono (by
    rintro e w' ⟨hb, ⟨_, a1⟩ | ⟨a2, _⟩⟩
    · exact ⟨hb, a1⟩
    · rw [hi] at a2; cases a2))
  have hok := partsV_ok false l 9223372036854775807 hw
  have hpn := partsV_len false l 9223372036854775807
  generalize partsV false 9223372036854775807 l = q at *
  obtain ⟨av, cap, rfl, _, _⟩ := own_form hL
  obtain ⟨n, hn⟩ : ∃ n, q.length = n := ⟨_, rfl⟩
  have HN := hide hn
  rw [hn] at HP hpn
  have hall : ∀ s ∈ q, inS p s = true := List.all_eq_true.1 hi
  have HQ := hide (fun s hs => And.intro (hok s hs) (hall s hs))
  have hfew := h.few
  have HGL := hide (fun k => gathF_len (f := f) hfew (q.take k) (fun s hs => hall s (List.mem_of_mem_take hs)))
  have hB0 := h.base
  have hGw : 1 < w.heap.size := Nat.lt_of_lt_of_le hG hB0
  have HH := hide h
  have HA0 := hide hA
  clear hL hi hok hall hn h hA
  go_enter Tryz.func16, Tryz.ntmps16
  go_wp2_with (first | (go_at_call 40; (with_reducible refine HP.out.mono ?_); rintro e W ⟨hb, vq, rfl, hq⟩; obtain ⟨qa, qc, rfl, hqc1, hqc2⟩ := own_form hq))
  go_loopw [8, 27] (fun ov iv wr => ∃ (k : Nat) (O1 : Nat → Prop), k ≤ n ∧ iv = .int .i64 (k : Nat) ∧ RamB wr B b p f c O1 ∧ Went B O O1 w wr ∧ AreasAt wr ∧ wr.ownsRow w.heap.size 70 3 (.slice qa n qc) n (segL q) ∧ (∀ g, (Value.slice qa n qc).ownBlock = some g → ¬ O1 g) ∧ wr.ownsRow w.heap.size 5 1 ov (gathF f (q.take k)).length (byteV (gathF f (q.take k))) ∧ (∀ g, ov.ownBlock = some g → ¬ O1 g) ∧ (∀ g, ov.ownBlock = some g → (Value.slice qa n qc).ownBlock ≠ some g)) (fun ov iv _ => n - (intOf iv).toNat)
  case atStart => exact ⟨0, O, Nat.zero_le _, rfl, HH.out.bl hb, Went.of hb hB0, HA0.out.bl hb, hq, (fun g e k => absurd (HH.out.lt g k) (by have := (hq.lt g e).1; omega)), World.ownsRow_nil _ _ _ _, (fun g hg => by cases hg), (fun g hg => by cases hg)⟩
  case round =>
    clear hb hq
    obtain ⟨k, O1, hk, rfl, hM, hW, hA, hq, hqn, hO, hOn, hOq⟩ := hrel
    have hS := hW.size
    have hB : B ≤ wr.heap.size := Nat.le_trans hB0 hS
    obtain ⟨gl, hgl⟩ : ∃ x, (gathF f (q.take k)).length = x := ⟨_, rfl⟩
    have hgb : gl ≤ 1000000 * 67108864 := by
      have := HGL.out k
      rw [hgl, List.length_take] at this
      have h2 : min k q.length ≤ 1000000 := by rw [HN.out]; omega
      exact Nat.le_trans this (Nat.mul_le_mul_right _ h2)
    rw [hgl] at hO
    have HGLn := hide hgl
    obtain ⟨ov, oc, rfl, ho1, ho2⟩ := own_form hO
    clear hgl
    by_cases hlt : k < n
    · obtain ⟨gb, cap', cur, hve, _, _, hgB, hLr, _, htk⟩ := own_row hq (show 0 < n by omega)
      obtain ⟨rfl, rfl⟩ : qa = some ⟨gb, 0, none⟩ ∧ qc = cap' := by injection hve with e1 e2 e3; exact ⟨e1, e3⟩
      have hgl : gb < wr.heap.size := hLr.lt
      obtain ⟨s, hs⟩ : ∃ s, q[k]? = some s := ⟨_, List.getElem?_eq_getElem (by rw [HN.out]; exact hlt)⟩
      have hmid := mid_s htk hs
      obtain ⟨⟨hok, _, hps, _⟩, hin⟩ := HQ.out s (List.mem_of_getElem? hs)
      obtain ⟨N, hN⟩ := Int.eq_ofNat_of_zero_le (show 0 ≤ s.n by omega)
      have hNt : s.n.toNat = N := by omega
      have hN0 : 0 < N := by omega
      have hin2 : plM s.at' + N ≤ 4096 * p := plB_in (by unfold inS at hin; rwa [hNt] at hin) hN0
      have hsl := segF_len f s
      rw [hNt] at hsl
      have htk1 : gathF f (q.take (k + 1)) = gathF f (q.take k) ++ segF f s := by rw [List.take_add_one, hs, gathF_app]; simp [gathF_one]
      have HT1 := hide htk1
      have hN9 : N ≤ 67108864 := by omega
      have HIM : Hid (∀ W, AreasAt W → Calls Tryz.prog 41 #[.int .u32 (s.at' : Nat)] W fun e w' => e = .returned (.int .u32 (plM s.at' : Nat)) ∧ Below W.heap.size W w') := hide (fun W hA => rinmem_any s.at' hok.at' W hA)
      have HRD : Hid (∀ W O1 NX, W.heap.size = NX → RamB W B b p f c O1 → Calls Tryz.prog 23 #[.pointer (some ⟨b, 0, none⟩), .int .u32 (plM s.at' : Nat), .int .i64 (N : Nat)] W fun e w' => e = .returned (.tuple #[.slice (some ⟨NX, 0, none⟩) N N, .nilIface]) ∧ HoldsAt w' NX N 5 (fun j => .int .u8 (f (plM s.at' + j) : Nat)) ∧ ∃ O', RamB w' B b p f c O' ∧ Went B O1 O' W w' ∧ ¬ O' NX) := hide (fun W O1 NX e hM => by subst e; exact read_b hM (plM s.at') (plM_lt hok.at') N hN0 hin2)
      have hlt' : (k : Int) < (n : Int) := by omega
      obtain ⟨ND, hND0⟩ : ∃ x, wr.heap.size = x := ⟨_, rfl⟩
      have hND := hide hND0
      have hd1 : w.heap.size ≤ ND := hND0 ▸ hS
      have hd2 : B ≤ ND := hND0 ▸ hB
      have hd3 : gb < ND := hND0 ▸ hgl
      have hdv : ∀ g, (Value.slice ov gl oc).ownBlock = some g → w.heap.size ≤ g ∧ g < ND := fun g hg => hND0 ▸ hO.lt g hg
      have hdO : ¬ O1 ND := fun e => absurd (hM.lt _ e) (by omega)
      have HSR := hide (fun (W : World) g (h : HoldsAt W g N 5 (fun j => .int .u8 (f (plM s.at' + j) : Nat))) => seg_src hNt h)
      have hqg := hqn gb rfl
      have hOg : ∀ g, (Value.slice ov gl oc).ownBlock = some g → gb ≠ g := fun g e k => hOq g e (by rw [k]; rfl)
      have HQO := hide (fun (V : World) (hr : RowAt V gb cur 70) => own_back hq hLr hr)
      generalize plM s.at' = pa at *
      clear hs htk hve htk1 hok hin hin2 hND0 hps hNt hq hqn hOq
      go_wp2_with (first | ((with_reducible refine ld_sm gb (k * 3) s cur _ hLr hmid ?_ ?_); exact rfl) | ((with_reducible refine al_sp ND ?_ ?_); exact hND.out; intro W hsr hb' hz; have hbc := hND.out ▸ hb'; replace hM := hM.bl hbc; replace hW := hW.bl hbc hB; replace hA := hA.bl hbc; replace hB := Nat.le_trans hB hbc.size; replace hS := Nat.le_trans hS hbc.size; replace hLr := hLr.bl hbc; replace hO := own_bel hO hbc; clear hb' hbc) | ((with_reducible refine st_sp ND _ s hsr ?_ ?_ ?_); exact rfl; exact rfl; intro W hnew ho; replace hz := hide (ho.size.trans hz.out); replace hM := hM.only ho hdO; replace hW := hW.only ho (by omega) (by omega); replace hA := hA.onlyR ho (by omega); replace hLr := hLr.only ho (by omega); replace hO := own_only hO ho (fun e => absurd (hdv _ e).2 (by omega)); replace hS := (show w.heap.size ≤ W.heap.size by rw [ho.size]; exact hS); replace hB := (show B ≤ W.heap.size by rw [ho.size]; exact hB); replace hsr := hnew; clear hnew ho))
      refine wp_region_held_drew (S := (fun V => RowAt V ND s.cells 70)) (by kernel_rfl) ?_ (fun hHeld => ?_)
      · exact hsr.dr
      replace hM := hM.dr
      replace hW := hW.dr
      replace hA := hA.drR
      replace hLr := hLr.dr
      replace hO := own_dr hO
      replace hS : w.heap.size ≤ (World.drew _).heap.size := hS
      replace hB : B ≤ (World.drew _).heap.size := hB
      generalize World.drew _ = V at hHeld hM hW hA hLr hO hS hB ⊢
      clear hsr hz
      refine wpAnyH_take (i := 0) (oi := ?oi1) (v := .pointer (some ⟨b, 0, none⟩)) ?hi1 (by kernel_rfl) (by kernel_rfl) (by kernel_rfl) ?hQ1 ?hy1 (by assumption) ?rest1
      case hi1 => (simp only [List.getElem?_toArray, List.getElem?_cons_zero]; rfl)
      case hQ1 => exact fun _ _ _ h => h
      case hy1 => exact Or.inl ⟨by rfl, by (intro w hSw; (try dsimp only at hSw); go_simp )⟩
      simp only [Act.put, List.setIfInBounds_toArray, List.set_cons_zero, List.set_cons_succ]
      refine wpAnyH_take (i := 1) (oi := ?oi2) (v := .pointer (some ⟨ND, 0, none⟩)) ?hi2 (by kernel_rfl) (by kernel_rfl) (by kernel_rfl) ?hQ2 ?hy2 (by assumption) ?rest2
      case hi2 => (simp only [List.getElem?_toArray, List.getElem?_cons_zero, List.getElem?_cons_succ]; rfl)
      case hQ2 => exact fun _ _ _ h => h
      case hy2 => exact Or.inl ⟨by rfl, by (intro w hSw; (try dsimp only at hSw); go_simp )⟩
      simp only [Act.put, List.setIfInBounds_toArray, List.set_cons_zero, List.set_cons_succ]
      refine wpAnyH_take (i := 2) (oi := ?oi3) (v := .int .u32 (s.at' : Nat)) ?hi3 (by kernel_rfl) (by kernel_rfl) (by kernel_rfl) ?hQ3 ?hy3 (by assumption) ?rest3
      case hi3 => (simp only [List.getElem?_toArray, List.getElem?_cons_zero, List.getElem?_cons_succ]; rfl)
      case hQ3 => exact fun _ _ _ h => h
      case hy3 => exact y_sat ND s _ (fun V hV => hV) rfl
      simp only [Act.put, List.setIfInBounds_toArray, List.set_cons_zero, List.set_cons_succ]
      refine wpAnyH_take (i := 4) (oi := ?oi4) (v := .pointer (some ⟨ND, 1, none⟩)) ?hi4 (by kernel_rfl) (by kernel_rfl) (by kernel_rfl) ?hQ4 ?hy4 (by assumption) ?rest4
      case hi4 => (simp only [List.getElem?_toArray, List.getElem?_cons_zero, List.getElem?_cons_succ]; rfl)
      case hQ4 => exact fun _ _ _ h => h
      case hy4 => exact Or.inl ⟨by rfl, by (intro w hSw; (try dsimp only at hSw); go_simp )⟩
      simp only [Act.put, List.setIfInBounds_toArray, List.set_cons_zero, List.set_cons_succ]
      refine wpAnyH_take (i := 5) (oi := ?oi5) (v := .int .i64 s.n) ?hi5 (by kernel_rfl) (by kernel_rfl) (by kernel_rfl) ?hQ5 ?hy5 (by assumption) ?rest5
      case hi5 => (simp only [List.getElem?_toArray, List.getElem?_cons_zero, List.getElem?_cons_succ]; rfl)
      case hQ5 => exact fun _ _ _ h => h
      case hy5 => exact y_sn ND s _ (fun V hV => hV) rfl
      simp only [Act.put, List.setIfInBounds_toArray, List.set_cons_zero, List.set_cons_succ]
      rw [hN]
      refine wpAnyH_ready (rs := [3]) (by kernel_rfl) (by simp) ?_
      refine AllReadyH.cons (o := ?oi6) ?hi6 (fun K hK => ?_) AllReadyH.nil
      case hi6 => (simp only [List.getElem?_toArray, List.getElem?_cons_zero, List.getElem?_cons_succ]; rfl)
      rw [if_pos (by rfl)]
      go_simp
      (with_reducible refine (HIM.out _ hA).mono ?_)
      rintro e V2 ⟨rfl, hbc⟩
      have hH2 := hide (hHeld.bl hbc)
      replace hM := hM.bl hbc
      replace hW := hW.bl hbc hB
      replace hA := hA.bl hbc
      replace hLr := hLr.bl hbc
      replace hO := own_bel hO hbc
      replace hB := Nat.le_trans hB hbc.size
      replace hS := Nat.le_trans hS hbc.size
      clear hHeld hbc
      go_simp
      refine hK.out _ _ ?_ (fun hHeld => ?_)
      · exact hH2.out
      clear hK K
      clear hH2
      refine wpAnyH_ready (rs := [6]) (by kernel_rfl) (by simp) ?_
      refine AllReadyH.cons (o := ?oi7) ?hi7 (fun K hK => ?_) AllReadyH.nil
      case hi7 => (simp only [List.getElem?_toArray, List.getElem?_cons_zero, List.getElem?_cons_succ]; rfl)
      obtain ⟨NX, hNX⟩ : ∃ x, V2.heap.size = x := ⟨_, rfl⟩
      rw [if_pos (by rfl)]
      go_simp
      (with_reducible refine (HRD.out _ _ NX hNX hM).mono ?_)
      rintro e V3 ⟨rfl, hHo, O3, hM3, hW3, hn3⟩
      have hH2 := hide (hW3.row hHeld hdO)
      have hqg3 := hW3.no hLr.lt hqg
      replace hLr := hW3.row hLr hqg
      have hx3 : NX < V3.heap.size := hHo.lt
      have hxv : ∀ g, (Value.slice ov gl oc).ownBlock = some g → g < NX := fun g hg => hNX ▸ (hO.lt g hg).2
      have hOn3 := fun g hg => hW3.no (hO.lt g hg).2 (hOn g hg)
      replace hO := own_went hO hW3 hOn
      replace hA := hA.wentR hG hW3
      replace hS := Nat.le_trans hS hW3.size
      replace hW := hW.trans hW3
      replace hB := Nat.le_trans hB hW3.size
      clear hM hOn hqg hW3 hHeld hNX
      go_simp
      refine hK.out _ _ ?_ (fun hHeld => ?_)
      · exact hH2.out
      clear hK K
      clear hH2
      refine wpAnyH_take (i := 7) (oi := ?oi8) (v := .tuple #[.slice (some ⟨NX, 0, none⟩) N N, .nilIface]) ?hi8 (by kernel_rfl) (by kernel_rfl) (by kernel_rfl) ?hQ8 ?hy8 (by assumption) ?rest8
      case hi8 => (simp only [List.getElem?_toArray, List.getElem?_cons_zero, List.getElem?_cons_succ]; rfl)
      case hQ8 => exact fun _ _ _ h => h
      case hy8 => exact Or.inl ⟨by rfl, by (intro w hSw; (try dsimp only at hSw); go_simp )⟩
      simp only [Act.put, List.setIfInBounds_toArray, List.set_cons_zero, List.set_cons_succ]
      refine wpAnyH_take (i := 8) (oi := ?oi9) (v := .slice (some ⟨NX, 0, none⟩) N N) ?hi9 (by kernel_rfl) (by kernel_rfl) (by kernel_rfl) ?hQ9 ?hy9 (by assumption) ?rest9
      case hi9 => (simp only [List.getElem?_toArray, List.getElem?_cons_zero, List.getElem?_cons_succ]; rfl)
      case hQ9 => exact fun _ _ _ h => h
      case hy9 => exact Or.inl ⟨by rfl, by (intro w hSw; (try dsimp only at hSw); go_simp )⟩
      simp only [Act.put, List.setIfInBounds_toArray, List.set_cons_zero, List.set_cons_succ]
      refine wpAnyH_take (i := 9) (oi := ?oi10) (v := .nilIface) ?hi10 (by kernel_rfl) (by kernel_rfl) (by kernel_rfl) ?hQ10 ?hy10 (by assumption) ?rest10
      case hi10 => (simp only [List.getElem?_toArray, List.getElem?_cons_zero, List.getElem?_cons_succ]; rfl)
      case hQ10 => exact fun _ _ _ h => h
      case hy10 => exact Or.inl ⟨by rfl, by (intro w hSw; (try dsimp only at hSw); go_simp )⟩
      simp only [Act.put, List.setIfInBounds_toArray, List.set_cons_zero, List.set_cons_succ]
      refine wpAnyH_take (i := 10) (oi := ?oi11) (v := .slice (some ⟨NX, 0, none⟩) N N) ?hi11 (by kernel_rfl) (by kernel_rfl) (by kernel_rfl) ?hQ11 ?hy11 (by assumption) ?rest11
      case hi11 => (simp only [List.getElem?_toArray, List.getElem?_cons_zero, List.getElem?_cons_succ]; rfl)
      case hQ11 => exact fun _ _ _ h => h
      case hy11 => exact Or.inl ⟨by rfl, by (intro w hSw; (try dsimp only at hSw); go_simp )⟩
      simp only [Act.put, List.setIfInBounds_toArray, List.set_cons_zero, List.set_cons_succ]
      refine wpAnyH_take (i := 11) (oi := ?oi12) (v := .nilIface) ?hi12 (by kernel_rfl) (by kernel_rfl) (by kernel_rfl) ?hQ12 ?hy12 (by assumption) ?rest12
      case hi12 => (simp only [List.getElem?_toArray, List.getElem?_cons_zero, List.getElem?_cons_succ]; rfl)
      case hQ12 => exact fun _ _ _ h => h
      case hy12 => exact Or.inl ⟨by rfl, by (intro w hSw; (try dsimp only at hSw); go_simp )⟩
      simp only [Act.put, List.setIfInBounds_toArray, List.set_cons_zero, List.set_cons_succ]
      refine wpAnyH_done (by kernel_rfl) ?_ _
      clear hHeld
      go_wp2_with (first | ((with_reducible refine app_b (gathF f (q.take k)) (segF f s) gl N N HGLn.out hsl hO NX (HSR.out _ _ hHo) (by omega) hS ?_ ?_ ?_); exact rfl; exact rfl; intro W v' hL2 hg hbk; have hOn4 := grow_no hM3 hOn3 hbk; have hbk2 : ∀ g, v'.ownBlock = some g → gb ≠ g := (fun g e => by rcases hbk with q1 | q1; exact hOg g (q1 ▸ e); rw [q1] at e; cases e; have := hLr.lt; omega); replace hLr := grow_row hLr hg (fun e => hOg _ e rfl); replace hA := AreasAt.growR hA hg (fun g e => by have := (hdv g e).1; omega); replace hW := grow_went hW hg (fun g e => (hdv g e).1) hB0; have hM4 := grow_ram hM3 hg hOn3; replace hS := Nat.le_trans hS hg.size; clear hM3 hOn3 hHo hg hbk))
      go_roundw
      case rel =>
        refine ⟨k + 1, _, hlt, by go_num, hM4, hW, hA, HQO.out _ hLr, (fun g e => by cases e; exact hqg3), by rw [HT1.out, List.length_append, HGLn.out, hsl]; exact hL2, hOn4, (fun g e k => by cases k; exact hbk2 _ e rfl)⟩
      case measure => simp [intOf]; omega
    · obtain rfl : k = n := by omega
      go_wp2
      go_ret2
      have ht : q.take k = q := by rw [← HN.out, List.take_length]
      rw [ht] at HGLn
      refine ⟨O1, _, rfl, hM, hW, ?_, hOn⟩
      rw [HGLn.out]
      rw [ht] at hO
      exact hO
end Go.Proofs.YtghpjibjhaomoaaGreatDoor
namespace Go.Proofs.YtghpjibjhaomoaaGreatDoor
open Go.RowKit
set_option linter.unusedVariables false

def txtR (l : List Nat) : ByteArray := ⟨(l.map fun n => UInt8.ofNat n).toArray⟩
theorem txt_nil (w : World) : (convert 28 9 (.slice none 0 0)).run Tryz.prog w = .ok (.string ByteArray.empty) w :=
  run_convert_bytes_nil (P := Tryz.prog) w 28 5 Tryz.underlying28 Tryz.underlying5 0 0 9 Tryz.underlying9
theorem getD_range (l : List Nat) : (List.range l.length).map (fun j => UInt8.ofNat ((l[j]?).getD 0)) = l.map fun n => UInt8.ofNat n := by
  apply List.ext_getElem?
  intro j
  rw [List.getElem?_map, List.getElem?_map]
  by_cases hj : j < l.length
  · rw [List.getElem?_range hj, List.getElem?_eq_getElem hj]
    show some (UInt8.ofNat ((l[j]?).getD 0)) = _
    rw [List.getElem?_eq_getElem hj]; rfl
  · rw [List.getElem?_eq_none (by simpa using hj), List.getElem?_eq_none (by omega)]; rfl
theorem conv_own {W : World} {B : Nat} {v : Value} {l : List Nat} (hs : ∀ y ∈ l, y < 256) (h : W.ownsRow B 5 1 v l.length (byteV l)) : (convert 28 9 v).run Tryz.prog W = .ok (.string (txtR l)) W := by
  rcases h.2 with ⟨h1, h2⟩ | ⟨g, cap, cur, h1, h2, h3, h4, h5, h6, h7⟩
  · subst h1
    have : l = [] := List.eq_nil_of_length_eq_zero h2
    subst this
    exact txt_nil W
  · subst h1
    have hc := fun j u hu => h.cells (g := g) rfl j u hu
    have k := conv_row (w := W) (g := g) (o := 0) (l := l.length) (c := cap) (f := fun j => (l[j]?).getD 0) (fun j => by
      cases e : l[j]? with
      | none => show (0 : Nat) < 256; decide
      | some y => exact hs y (List.mem_of_getElem? e)) (fun j hj => by
      have := hc j (.int .u8 (((l[j]?).getD 0 : Nat) : Int)) (by rw [byteV, List.getElem?_map, List.getElem?_eq_getElem hj]; rfl)
      rwa [show (⟨g, 0, none⟩ : Addr).add j = ⟨g, 0 + j, none⟩ by unfold Addr.add; split <;> simp_all] at this)
    rw [getD_range] at k
    exact k
end Go.Proofs.YtghpjibjhaomoaaGreatDoor
namespace Go.Proofs.YtghpjibjhaomoaaGreatDoor
open Go.RowKit
set_option linter.unusedVariables false
set_option linter.unusedSimpArgs false

def eqS (s t : Sg) : Bool := (s.at' == t.at') && ((s.n == t.n) && (s.wr == t.wr))
theorem castS (a b : Nat) : ((a : Int) == (b : Int)) = (a == b) := by
  by_cases h : a = b
  · subst h; simp
  · rw [beq_false_of_ne h, beq_false_of_ne (by omega)]
theorem eqS_self (s : Sg) : eqS s s = true := by simp [eqS]
set_option maxHeartbeats 1000000 in
theorem eq_s (s t : Sg) (w : World) : (binOp .eql 70 (.agg s.cells) (.agg t.cells)).run Tryz.prog w = .ok (.bool (eqS s t)) w := by
  simp [go_sem, Sg.at0, Sg.at1, Sg.at2, castS]
  repeat' split
  all_goals simp [eqS, *]
set_option maxHeartbeats 1000000 in
theorem ne_s (s t : Sg) (w : World) : (binOp .neq 70 (.agg s.cells) (.agg t.cells)).run Tryz.prog w = .ok (.bool (!eqS s t)) w := by
  simp [go_sem, Sg.at0, Sg.at1, Sg.at2, castS]
  repeat' split
  all_goals simp [eqS, *]
theorem no_guard_s : Tryz.prog.eqGuardType Tryz.prog.depth 70 = false := by kernel_rfl
variable {ops : Array Oper} {rest : List Oper} {dst : Option Tmp} {ty t2 : TypeId} {after : Array Edge} {a : Act} {x y : Operand} {gd : Option (Nat × Bool)} {pos : String} {S : World → Prop} {w : World} {Q : Exit → Act → World → Prop}
theorem run_eqs (s t : Sg) (hx : a.eval x = .agg s.cells) (hy : a.eval y = .agg t.cells) (V : World) : (execOp a.eval ⟨dst, .binOp .eql 70 x y t2, ty, pos, after, gd⟩).run Tryz.prog V = .ok (.value (.bool (eqS s t))) V := by
  unfold execOp
  simp only [Sem.run_bind, hx, hy, run_eqGuard_agg V .eql 70 x y s.cells t.cells no_guard_s, eq_s s t, Result.andThen_ok, Sem.run_pure]
theorem g_eqs (s t : Sg) (hx : a.eval x = .agg s.cells) (hy : a.eval y = .agg t.cells) (hw : Region.wanted ⟨dst, .binOp .eql 70 x y t2, ty, pos, after, gd⟩ (yielded ops a.tmps) = true)
    (k : wpList Tryz.prog ops Q rest (a.put dst (.bool (eqS s t))) w) : wpList Tryz.prog ops Q (⟨dst, .binOp .eql 70 x y t2, ty, pos, after, gd⟩ :: rest) a w :=
  BigFrame.wpList_want hw fun K hK => by
    unfold Oper.wp
    rw [run_eqs s t hx hy w, Oper.upon_value]
    exact hK _ _ k
theorem run_nes (s t : Sg) (hx : a.eval x = .agg s.cells) (hy : a.eval y = .agg t.cells) (V : World) : (execOp a.eval ⟨dst, .binOp .neq 70 x y t2, ty, pos, after, gd⟩).run Tryz.prog V = .ok (.value (.bool (!eqS s t))) V := by
  unfold execOp
  simp only [Sem.run_bind, hx, hy, run_eqGuard_agg V .neq 70 x y s.cells t.cells no_guard_s, ne_s s t, Result.andThen_ok, Sem.run_pure]
theorem g_nes (s t : Sg) (hx : a.eval x = .agg s.cells) (hy : a.eval y = .agg t.cells) (hw : Region.wanted ⟨dst, .binOp .neq 70 x y t2, ty, pos, after, gd⟩ (yielded ops a.tmps) = true)
    (k : wpList Tryz.prog ops Q rest (a.put dst (.bool (!eqS s t))) w) : wpList Tryz.prog ops Q (⟨dst, .binOp .neq 70 x y t2, ty, pos, after, gd⟩ :: rest) a w :=
  BigFrame.wpList_want hw fun K hK => by
    unfold Oper.wp
    rw [run_nes s t hx hy w, Oper.upon_value]
    exact hK _ _ k
theorem ld_smg (b j : Nat) (d : Sg) (cur : Array Value) (t' : TypeId) (hr : RowAt w b cur t') (hm : (cur.extract j (j + d.cells.size)).toList = d.cells.toList) (hx : a.eval x = .pointer (some ⟨b, j, none⟩)) (hw : Region.wanted ⟨dst, .load 70 x, ty, pos, after, gd⟩ (yielded ops a.tmps) = true)
    (k : wpList Tryz.prog ops Q rest (a.put dst (.agg d.cells)) w) : wpList Tryz.prog ops Q (⟨dst, .load 70 x, ty, pos, after, gd⟩ :: rest) a w := by
  have hq := World.rangeAt_of_block hr j d.cells.size
  rw [hm] at hq
  exact BigFrame.wpList_want hw fun K hK => wp_load_mid 70 x rfl b j hx d.cells.toList _ hq Tryz.underlying70 rfl size_sp (hK _ _ k)
end Go.Proofs.YtghpjibjhaomoaaGreatDoor
