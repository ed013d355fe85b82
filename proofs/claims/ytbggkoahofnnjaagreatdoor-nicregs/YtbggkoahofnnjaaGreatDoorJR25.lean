/-
  What ring's Give does, where head and number can be stored.
-/
import Derived.Test.YtbggkoahofnnjaaGreatDoorJR24
open Go.Proofs.Tryz
set_option linter.unusedVariables false
set_option linter.unusedSimpArgs false
namespace Go.Proofs.YtbggkoahofnnjaaGreatDoor
open Go.RowKit
set_option maxHeartbeats 4000000
theorem own_back {w V : World} {B e size n g cap : Nat} {xs : List Value} {cur : Array Value} (h : w.ownsRow B e size (.slice (some ⟨g, 0, none⟩) n cap) n xs) (hr : RowAt w g cur e) (hv : RowAt V g cur e) : V.ownsRow B e size (.slice (some ⟨g, 0, none⟩) n cap) n xs :=
  own_at h (fun g' e' => by cases e'; exact Eq.trans hv (Eq.symm hr))
def segF (f : Nat → Nat) (s : Sg) : List Nat := (List.range s.n.toNat).map fun j => f (plM s.at' + j)
def gathF (f : Nat → Nat) (l : List Sg) : List Nat := l.flatMap (segF f)
theorem segF_len (f : Nat → Nat) (s : Sg) : (segF f s).length = s.n.toNat := by simp [segF]
theorem segF_at {f : Nat → Nat} {s : Sg} {j : Nat} (h : j < s.n.toNat) : (segF f s)[j]? = some (f (plM s.at' + j)) := by simp [segF, h]
theorem gathF_app (f : Nat → Nat) (l m : List Sg) : gathF f (l ++ m) = gathF f l ++ gathF f m := by simp [gathF]
theorem gathF_one (f : Nat → Nat) (s : Sg) : gathF f [s] = segF f s := by simp [gathF]
theorem byteV_append (l m : List Nat) : byteV (l ++ m) = byteV l ++ byteV m := by simp [byteV]
theorem gathF_len {p : Nat} {f : Nat → Nat} (hp : p ≤ 16384) : ∀ (l : List Sg), (∀ s ∈ l, inS p s = true) → (gathF f l).length ≤ l.length * 67108864
  | [], _ => Nat.zero_le _
  | s :: t, h => by
    have ih := gathF_len (f := f) hp t (fun x hx => h x (List.mem_cons_of_mem _ hx))
    have hs := h s (List.mem_cons_self ..)
    have : gathF f (s :: t) = segF f s ++ gathF f t := rfl
    rw [this, List.length_append, segF_len, List.length_cons]
    have := of_decide_eq_true hs
    omega
theorem seg_src {W : World} {g : Nat} {f : Nat → Nat} {s : Sg} {N : Nat} (hN : s.n.toNat = N) (h : HoldsAt W g N 5 (fun j => .int .u8 (f (plM s.at' + j) : Nat))) (j : Nat) (u : Value) (hu : (byteV (segF f s))[j]? = some u) : W.cell? ⟨g, j, none⟩ = some u := by
  have hl : j < N := by
    have := (List.getElem?_eq_some_iff.1 hu).1
    rwa [byteV_len, segF_len, hN] at this
  rw [h.cell hl]
  rw [byteV, List.getElem?_map, segF_at (by rw [hN]; exact hl)] at hu
  exact hu
variable {ops : Array Oper} {rest : List Oper} {dst : Option Tmp} {ty : TypeId} {pos : String} {after : Array Edge} {a : Act} {w : World} {Q : Exit → Act → World → Prop} {x y : Operand} {B : Nat} {v : Value}
theorem info_b : ∃ i, prog.info? 5 = some i ∧ i.zero = some (.int .u8 0) ∧ i.size = 1 ∧ i.bytes = 1 := info_parts (P := prog) (e := 5) (z := .int .u8 0) (size := 1) (bytes := 1) (by kernel_rfl)
theorem app_b (l m : List Nat) (n N sc : Nat) (hn : l.length = n) (hm : m.length = N) (hown : w.ownsRow B 5 1 v n (byteV l)) (s : Nat) (hs : ∀ (j : Nat) (u : Value), (byteV m)[j]? = some u → w.cell? ⟨s, j, none⟩ = some u) (hl : n + N ≤ 140737488355328) (hB : B ≤ w.heap.size) (hx : a.eval x = v) (hy : a.eval y = .slice (some ⟨s, 0, none⟩) N sc)
    (k : ∀ W v', W.ownsRow B 5 1 v' (n + N) (byteV (l ++ m)) → w.grownBy W v.ownBlock → (v'.ownBlock = v.ownBlock ∨ v'.ownBlock = some w.heap.size) → wpList prog ops Q rest (a.put dst v') W) :
    wpList prog ops Q (⟨dst, .call { callee := .builtin .append, args := #[x, y], argTypes := #[60, 60] }, 60, pos, after, none⟩ :: rest) a w := by
  obtain ⟨i, h1, h2, h3, h4⟩ := info_b
  refine op_appl 60 5 i _ 1 1 underlying60 h1 h2 h3 h4 rfl (by decide) hown ⟨s, 0, none⟩ N sc (byteV m) (by rw [byteV_len, hm]; omega) ?_ (byteV_one _) (by unfold maxLen; omega) (by omega) hB hx hy ?_
  · intro j u hu
    rw [Addr.add_lit, Nat.zero_add]
    exact hs j u hu
  · intro W v' q1 q2 q3
    rw [← byteV_append] at q1
    exact k W v' q1 q2 q3
set_option maxRecDepth 20000 in
theorem gath_ok (l : List Sg) (hl : l.length ≤ 1000000) (hw : ∀ s ∈ l, s.Ok) {w : World} {B b p c Bl : Nat} {v : Value} {f : Nat → Nat} {O : Nat → Prop} (h : RamB w B b p f c O) (hA : AreasAt w) (hG : 2 < B) (hL : w.ownsRow Bl 193 3 v l.length (segL l)) (hi : (partsV false 9223372036854775807 l).all (inS p) = true) : Calls prog 82 #[.pointer (some ⟨b, 0, none⟩), v] w fun e w' => ∃ O' v', e = .returned (.tuple #[v', .nilIface]) ∧ RamB w' B b p f c O' ∧ Went B O O' w w' ∧ w'.ownsRow w.heap.size 5 1 v' (gathF f (partsV false 9223372036854775807 l)).length (byteV (gathF f (partsV false 9223372036854775807 l))) ∧ ∀ g, v'.ownBlock = some g → ¬ O' g := by
  have HP : Hid (Calls prog 112 #[.pointer (some ⟨b, 0, none⟩), v, .bool false, .int .i64 9223372036854775807] w fun e w' => Below w.heap.size w w' ∧ ∃ v', e = .returned (.tuple #[v', .nilIface]) ∧ w'.ownsRow w.heap.size 193 3 v' (partsV false 9223372036854775807 l).length (segL (partsV false 9223372036854775807 l))) := hide ((parts_any l (by omega) hw false 9223372036854775807 (by decide) (by decide) h hA hL).mono (by
    rintro e w' ⟨hb, ⟨_, a1⟩ | ⟨a2, _⟩⟩
    · exact ⟨hb, a1⟩
    · rw [hi] at a2; cases a2))
  have hok := partsV_ok false l 9223372036854775807 hw
  have hpn := partsV_len false l 9223372036854775807
  generalize partsV false 9223372036854775807 l = q at *
  obtain ⟨av, cap, rfl, _, _⟩ := own_form hL
  obtain ⟨n, hn⟩ : ∃ n, q.length = n := ⟨_, rfl⟩
  have HN := hide hn
  rw [hn] at HP hpn
  have hall : ∀ s ∈ q, inS p s = true := List.all_eq_true.1 hi
  have HQ := hide (fun s hs => And.intro (hok s hs) (hall s hs))
  have hfew := h.few
  have HGL := hide (fun k => gathF_len (f := f) hfew (q.take k) (fun s hs => hall s (List.mem_of_mem_take hs)))
  have hB0 := h.base
  have hGw : 2 < w.heap.size := Nat.lt_of_lt_of_le hG hB0
  have HH := hide h
  have HA0 := hide hA
  clear hL hi hok hall hn h hA
  go_enter func82, ntmps82
  go_wp2_with (first | (go_at_call 112; (with_reducible refine HP.out.mono ?_); rintro e W ⟨hb, vq, rfl, hq⟩; obtain ⟨qa, qc, rfl, hqc1, hqc2⟩ := own_form hq))
  go_loopw [8, 27] (fun ov iv wr => ∃ (k : Nat) (O1 : Nat → Prop), k ≤ n ∧ iv = .int .i64 (k : Nat) ∧ RamB wr B b p f c O1 ∧ Went B O O1 w wr ∧ AreasAt wr ∧ wr.ownsRow w.heap.size 193 3 (.slice qa n qc) n (segL q) ∧ (∀ g, (Value.slice qa n qc).ownBlock = some g → ¬ O1 g) ∧ wr.ownsRow w.heap.size 5 1 ov (gathF f (q.take k)).length (byteV (gathF f (q.take k))) ∧ (∀ g, ov.ownBlock = some g → ¬ O1 g) ∧ (∀ g, ov.ownBlock = some g → (Value.slice qa n qc).ownBlock ≠ some g)) (fun ov iv _ => n - (intOf iv).toNat)
  case atStart => exact ⟨0, O, Nat.zero_le _, rfl, HH.out.bl hb, Went.of hb hB0, HA0.out.bl hb, hq, (fun g e k => absurd (HH.out.lt g k) (by have := (hq.lt g e).1; omega)), World.ownsRow_nil _ _ _ _, (fun g hg => by cases hg), (fun g hg => by cases hg)⟩
  case round =>
    clear hb hq
    obtain ⟨k, O1, hk, rfl, hM, hW, hA, hq, hqn, hO, hOn, hOq⟩ := hrel
    have hS := hW.size
    have hB : B ≤ wr.heap.size := Nat.le_trans hB0 hS
    obtain ⟨gl, hgl⟩ : ∃ x, (gathF f (q.take k)).length = x := ⟨_, rfl⟩
    have hgb : gl ≤ 1000000 * 67108864 := by
      have := HGL.out k
      rw [hgl, List.length_take] at this
      have h2 : min k q.length ≤ 1000000 := by rw [HN.out]; omega
      exact Nat.le_trans this (Nat.mul_le_mul_right _ h2)
    rw [hgl] at hO
    have HGLn := hide hgl
    obtain ⟨ov, oc, rfl, ho1, ho2⟩ := own_form hO
    clear hgl
    by_cases hlt : k < n
    · obtain ⟨gb, cap', cur, hve, _, _, hgB, hLr, _, htk⟩ := own_row hq (show 0 < n by omega)
      obtain ⟨rfl, rfl⟩ : qa = some ⟨gb, 0, none⟩ ∧ qc = cap' := by injection hve with e1 e2 e3; exact ⟨e1, e3⟩
      have hgl : gb < wr.heap.size := hLr.lt
      obtain ⟨s, hs⟩ : ∃ s, q[k]? = some s := ⟨_, List.getElem?_eq_getElem (by rw [HN.out]; exact hlt)⟩
      have hmid := mid_s htk hs
      obtain ⟨⟨hok, _, hps, _⟩, hin⟩ := HQ.out s (List.mem_of_getElem? hs)
      obtain ⟨N, hN⟩ := Int.eq_ofNat_of_zero_le (show 0 ≤ s.n by omega)
      have hNt : s.n.toNat = N := by omega
      have hN0 : 0 < N := by omega
      have hin2 : plM s.at' + N ≤ 4096 * p := plB_in (by unfold inS at hin; rwa [hNt] at hin) hN0
      have hsl := segF_len f s
      rw [hNt] at hsl
      have htk1 : gathF f (q.take (k + 1)) = gathF f (q.take k) ++ segF f s := by rw [List.take_add_one, hs, gathF_app]; simp [gathF_one]
      have HT1 := hide htk1
      have hN9 : N ≤ 67108864 := by omega
      have HIM : Hid (∀ W, AreasAt W → Calls prog 113 #[.int .u32 (s.at' : Nat)] W fun e w' => e = .returned (.int .u32 (plM s.at' : Nat)) ∧ Below W.heap.size W w') := hide (fun W hA => rinmem_any s.at' hok.at' W hA)
      have HRD : Hid (∀ W O1 NX, W.heap.size = NX → RamB W B b p f c O1 → Calls prog 19 #[.pointer (some ⟨b, 0, none⟩), .int .u32 (plM s.at' : Nat), .int .i64 (N : Nat)] W fun e w' => e = .returned (.tuple #[.slice (some ⟨NX, 0, none⟩) N N, .nilIface]) ∧ HoldsAt w' NX N 5 (fun j => .int .u8 (f (plM s.at' + j) : Nat)) ∧ ∃ O', RamB w' B b p f c O' ∧ Went B O1 O' W w' ∧ ¬ O' NX) := hide (fun W O1 NX e hM => by subst e; exact read_b hM (plM s.at') (plM_lt hok.at') N hN0 hin2)
      have hlt' : (k : Int) < (n : Int) := by omega
      obtain ⟨ND, hND0⟩ : ∃ x, wr.heap.size = x := ⟨_, rfl⟩
      have hND := hide hND0
      have hd1 : w.heap.size ≤ ND := hND0 ▸ hS
      have hd2 : B ≤ ND := hND0 ▸ hB
      have hd3 : gb < ND := hND0 ▸ hgl
      have hdv : ∀ g, (Value.slice ov gl oc).ownBlock = some g → w.heap.size ≤ g ∧ g < ND := fun g hg => hND0 ▸ hO.lt g hg
      have hdO : ¬ O1 ND := fun e => absurd (hM.lt _ e) (by omega)
      have HSR := hide (fun (W : World) g (h : HoldsAt W g N 5 (fun j => .int .u8 (f (plM s.at' + j) : Nat))) => seg_src hNt h)
      have hqg := hqn gb rfl
      have hOg : ∀ g, (Value.slice ov gl oc).ownBlock = some g → gb ≠ g := fun g e k => hOq g e (by rw [k]; rfl)
      have HQO := hide (fun (V : World) (hr : RowAt V gb cur 193) => own_back hq hLr hr)
      generalize plM s.at' = pa at *
      clear hs htk hve htk1 hok hin hin2 hND0 hps hNt hq hqn hOq
      go_wp2_with (first | ((with_reducible refine ld_sm gb (k * 3) s cur _ hLr hmid ?_ ?_); exact rfl) | ((with_reducible refine al_sp ND ?_ ?_); exact hND.out; intro W hsr hb' hz; have hbc := hND.out ▸ hb'; replace hM := hM.bl hbc; replace hW := hW.bl hbc hB; replace hA := hA.bl hbc; replace hB := Nat.le_trans hB hbc.size; replace hS := Nat.le_trans hS hbc.size; replace hLr := hLr.bl hbc; replace hO := own_bel hO hbc; clear hb' hbc) | ((with_reducible refine st_sp ND _ s hsr ?_ ?_ ?_); exact rfl; exact rfl; intro W hnew ho; replace hz := hide (ho.size.trans hz.out); replace hM := hM.only ho hdO; replace hW := hW.only ho (by omega) (by omega); replace hA := hA.onlyR ho (by omega); replace hLr := hLr.only ho (by omega); replace hO := own_only hO ho (fun e => absurd (hdv _ e).2 (by omega)); replace hS := (show w.heap.size ≤ W.heap.size by rw [ho.size]; exact hS); replace hB := (show B ≤ W.heap.size by rw [ho.size]; exact hB); replace hsr := hnew; clear hnew ho))
      refine wp_region_held_drew (S := (fun V => RowAt V ND s.cells 193)) (by kernel_rfl) ?_ (fun hHeld => ?_)
      · exact hsr.dr
      replace hM := hM.dr
      replace hW := hW.dr
      replace hA := hA.drR
      replace hLr := hLr.dr
      replace hO := own_dr hO
      replace hS : w.heap.size ≤ (World.drew _).heap.size := hS
      replace hB : B ≤ (World.drew _).heap.size := hB
      generalize World.drew _ = V at hHeld hM hW hA hLr hO hS hB ⊢
      clear hsr hz
      refine tkO 0 (.pointer (some ⟨b, 0, none⟩)) (by simp only [gT, gZ]; rfl) (puO (by (intro w hSw; (try dsimp only at hSw); go_simp))) ?_
      simp only [Act.put, pA, pZ, pS]
      refine tkO 1 (.pointer (some ⟨ND, 0, none⟩)) (by simp only [gT, gZ, gS]; rfl) (puO (by (intro w hSw; (try dsimp only at hSw); go_simp))) ?_
      simp only [Act.put, pA, pZ, pS]
      refine tkO 2 (.int .u32 (s.at' : Nat)) (by simp only [gT, gZ, gS]; rfl) (y_sat ND s _ (fun V hV => hV) rfl) ?_
      simp only [Act.put, pA, pZ, pS]
      refine tkO 4 (.pointer (some ⟨ND, 1, none⟩)) (by simp only [gT, gZ, gS]; rfl) (puO (by (intro w hSw; (try dsimp only at hSw); go_simp))) ?_
      simp only [Act.put, pA, pZ, pS]
      refine tkO 5 (.int .i64 s.n) (by simp only [gT, gZ, gS]; rfl) (y_sn ND s _ (fun V hV => hV) rfl) ?_
      simp only [Act.put, pA, pZ, pS]
      rw [hN]
      refine skO 3 (by simp only [gT, gZ, gS]; rfl) (fun K hK => ?_)
      rw [if_pos (by rfl)]
      go_simp
      (with_reducible refine (HIM.out _ hA).mono ?_)
      rintro e V2 ⟨rfl, hbc⟩
      have hH2 := hide (hHeld.bl hbc)
      replace hM := hM.bl hbc
      replace hW := hW.bl hbc hB
      replace hA := hA.bl hbc
      replace hLr := hLr.bl hbc
      replace hO := own_bel hO hbc
      replace hB := Nat.le_trans hB hbc.size
      replace hS := Nat.le_trans hS hbc.size
      clear hHeld hbc
      go_simp
      refine hK.out _ _ ?_ (fun hHeld => ?_)
      · exact hH2.out
      clear hK K
      clear hH2
      refine skO 6 (by simp only [gT, gZ, gS]; rfl) (fun K hK => ?_)
      obtain ⟨NX, hNX⟩ : ∃ x, V2.heap.size = x := ⟨_, rfl⟩
      rw [if_pos (by rfl)]
      go_simp
      (with_reducible refine (HRD.out _ _ NX hNX hM).mono ?_)
      rintro e V3 ⟨rfl, hHo, O3, hM3, hW3, hn3⟩
      have hH2 := hide (hW3.row hHeld hdO)
      have hqg3 := hW3.no hLr.lt hqg
      replace hLr := hW3.row hLr hqg
      have hx3 : NX < V3.heap.size := hHo.lt
      have hxv : ∀ g, (Value.slice ov gl oc).ownBlock = some g → g < NX := fun g hg => hNX ▸ (hO.lt g hg).2
      have hOn3 := fun g hg => hW3.no (hO.lt g hg).2 (hOn g hg)
      replace hO := own_went hO hW3 hOn
      replace hA := hA.wentR hG hW3
      replace hS := Nat.le_trans hS hW3.size
      replace hW := hW.trans hW3
      replace hB := Nat.le_trans hB hW3.size
      clear hM hOn hqg hW3 hHeld hNX
      go_simp
      refine hK.out _ _ ?_ (fun hHeld => ?_)
      · exact hH2.out
      clear hK K
      clear hH2
      refine tkO 7 (.tuple #[.slice (some ⟨NX, 0, none⟩) N N, .nilIface]) (by simp only [gT, gZ, gS]; rfl) (puO (by (intro w hSw; (try dsimp only at hSw); go_simp))) ?_
      simp only [Act.put, pA, pZ, pS]
      refine tkO 8 (.slice (some ⟨NX, 0, none⟩) N N) (by simp only [gT, gZ, gS]; rfl) (puO (by (intro w hSw; (try dsimp only at hSw); go_simp))) ?_
      simp only [Act.put, pA, pZ, pS]
      refine tkO 9 (.nilIface) (by simp only [gT, gZ, gS]; rfl) (puO (by (intro w hSw; (try dsimp only at hSw); go_simp))) ?_
      simp only [Act.put, pA, pZ, pS]
      refine tkO 10 (.slice (some ⟨NX, 0, none⟩) N N) (by simp only [gT, gZ, gS]; rfl) (puO (by (intro w hSw; (try dsimp only at hSw); go_simp))) ?_
      simp only [Act.put, pA, pZ, pS]
      refine tkO 11 (.nilIface) (by simp only [gT, gZ, gS]; rfl) (puO (by (intro w hSw; (try dsimp only at hSw); go_simp))) ?_
      simp only [Act.put, pA, pZ, pS]
      refine wpAnyH_done (by kernel_rfl) ?_ _
      clear hHeld
      go_wp2_with (first | ((with_reducible refine app_b (gathF f (q.take k)) (segF f s) gl N N HGLn.out hsl hO NX (HSR.out _ _ hHo) (by omega) hS ?_ ?_ ?_); exact rfl; exact rfl; intro W v' hL2 hg hbk; have hOn4 := grow_no hM3 hOn3 hbk; have hbk2 : ∀ g, v'.ownBlock = some g → gb ≠ g := (fun g e => by rcases hbk with q1 | q1; exact hOg g (q1 ▸ e); rw [q1] at e; cases e; have := hLr.lt; omega); replace hLr := grow_row hLr hg (fun e => hOg _ e rfl); replace hA := AreasAt.growR hA hg (fun g e => by have := (hdv g e).1; omega); replace hW := grow_went hW hg (fun g e => (hdv g e).1) hB0; have hM4 := grow_ram hM3 hg hOn3; replace hS := Nat.le_trans hS hg.size; clear hM3 hOn3 hHo hg hbk))
      go_roundw
      case rel =>
        refine ⟨k + 1, _, hlt, by go_num, hM4, hW, hA, HQO.out _ hLr, (fun g e => by cases e; exact hqg3), by rw [HT1.out, List.length_append, HGLn.out, hsl]; exact hL2, hOn4, (fun g e k => by cases k; exact hbk2 _ e rfl)⟩
      case measure => simp [intOf]; omega
    · obtain rfl : k = n := by omega
      go_wp2
      go_ret2
      have ht : q.take k = q := by rw [← HN.out, List.take_length]
      rw [ht] at HGLn
      refine ⟨O1, _, rfl, hM, hW, ?_, hOn⟩
      rw [HGLn.out]
      rw [ht] at hO
      exact hO
end Go.Proofs.YtbggkoahofnnjaaGreatDoor
namespace Go.Proofs.YtbggkoahofnnjaaGreatDoor
open Go.RowKit
def txtR (l : List Nat) : ByteArray := ⟨(l.map fun n => UInt8.ofNat n).toArray⟩
theorem getD_range (l : List Nat) : (List.range l.length).map (fun j => UInt8.ofNat ((l[j]?).getD 0)) = l.map fun n => UInt8.ofNat n := by
  apply List.ext_getElem?
  intro j
  rw [List.getElem?_map, List.getElem?_map]
  by_cases hj : j < l.length
  · rw [List.getElem?_range hj, List.getElem?_eq_getElem hj]
    show some (UInt8.ofNat ((l[j]?).getD 0)) = _
    rw [List.getElem?_eq_getElem hj]; rfl
  · rw [List.getElem?_eq_none (by simpa using hj), List.getElem?_eq_none (by omega)]; rfl
end Go.Proofs.YtbggkoahofnnjaaGreatDoor
namespace Go.Proofs.YtbggkoahofnnjaaGreatDoor
open Go.RowKit
set_option maxHeartbeats 2000000
def moreN (s n : Int) : Int := if 0 ≤ n then (if n ≤ 9223372036854775807 - s then s + n else 9223372036854775807) else s
theorem moreN_in {s n : Int} (h0 : 0 ≤ s) (h1 : s ≤ 9223372036854775807) : 0 ≤ moreN s n ∧ moreN s n ≤ 9223372036854775807 := by unfold moreN; split <;> (try split) <;> omega
def roomV (wr : Bool) : Int → List Sg → Int
  | a, [] => a
  | a, s :: t => roomV wr (if s.wr = wr then moreN a s.n else a) t
theorem roomV_app (wr : Bool) : ∀ (l m : List Sg) (a : Int), roomV wr a (l ++ m) = roomV wr (roomV wr a l) m
  | [], m, a => rfl
  | s :: t, m, a => roomV_app wr t m _
theorem roomV_in (wr : Bool) : ∀ (l : List Sg) (a : Int), 0 ≤ a → a ≤ 9223372036854775807 → 0 ≤ roomV wr a l ∧ roomV wr a l ≤ 9223372036854775807
  | [], a, h0, h1 => ⟨h0, h1⟩
  | s :: t, a, h0, h1 => by
    have := moreN_in (n := s.n) h0 h1
    exact roomV_in wr t _ (by split <;> omega) (by split <;> omega)
theorem more_any (s n : Int) (h0 : 0 ≤ s) (h1 : s ≤ 9223372036854775807) (n0 : -9223372036854775808 ≤ n) (n1 : n ≤ 9223372036854775807) (w : World) : Calls prog 93 #[.int .i64 s, .int .i64 n] w fun e w' => e = .returned (.int .i64 (moreN s n)) ∧ w' = w := by
  unfold moreN
  by_cases c0 : 0 ≤ n
  · by_cases c1 : n ≤ 9223372036854775807 - s
    · rw [if_pos c0, if_pos c1]
      have e1 : max n 0 = n := by omega
      have e2 : min n (9223372036854775807 - s) = n := by omega
      go_enter func93, ntmps93
      go_wp2
      go_ret
      refine ⟨?_, rfl⟩
      show Ending.returned (.int .i64 _) = _
      congr 2
    · rw [if_pos c0, if_neg c1]
      have e1 : max n 0 = n := by omega
      have e2 : min n (9223372036854775807 - s) = 9223372036854775807 - s := by omega
      go_enter func93, ntmps93
      go_wp2
      go_ret
      refine ⟨?_, rfl⟩
      show Ending.returned (.int .i64 _) = _
      congr 2
      omega
  · rw [if_neg c0]
    have e1 : max n 0 = 0 := by omega
    have e2 : min (0 : Int) (9223372036854775807 - s) = 0 := by omega
    go_enter func93, ntmps93
    go_wp2
    go_ret
    refine ⟨?_, rfl⟩
    show Ending.returned (.int .i64 _) = _
    congr 2
theorem room_any (l : List Sg) (hl : l.length ≤ 1000000) (hw : ∀ s ∈ l, s.Ok) {w : World} {Bl : Nat} {v : Value} (hL : w.ownsRow Bl 193 3 v l.length (segL l)) :
    Calls prog 54 #[v] w fun e w' => e = .returned (.tuple #[.int .i64 (roomV false 0 l), .int .i64 (roomV true 0 l)]) ∧ Below w.heap.size w w' := by
  have HL := hide hL
  obtain ⟨n, hn⟩ : ∃ n, l.length = n := ⟨_, rfl⟩
  have HN := hide hn
  rw [hn] at hl
  obtain ⟨av, cap, rfl, hc1, hc2⟩ := own_form hL
  rw [hn] at hc1 ⊢
  clear hL hn
  go_enter func54, ntmps54
  go_wp2
  go_loopw [4, 5, 10] (fun rv wv iv wr => ∃ (k : Nat), k ≤ n ∧ iv = .int .i64 (k : Nat) ∧ rv = .int .i64 (roomV false 0 (l.take k)) ∧ wv = .int .i64 (roomV true 0 (l.take k)) ∧ Below w.heap.size w wr) (fun rv wv iv _ => n - (intOf iv).toNat)
  case atStart => exact ⟨0, Nat.zero_le _, rfl, rfl, rfl, Below.refl _ _⟩
  case round =>
    obtain ⟨k, hk, rfl, rfl, rfl, hb⟩ := hrel
    have hb1 := roomV_in false (l.take k) 0 (by decide) (by decide)
    have hb2 := roomV_in true (l.take k) 0 (by decide) (by decide)
    obtain ⟨ra, hra⟩ : ∃ x, roomV false 0 (l.take k) = x := ⟨_, rfl⟩
    obtain ⟨wa, hwa⟩ : ∃ x, roomV true 0 (l.take k) = x := ⟨_, rfl⟩
    rw [hra] at hb1 ⊢
    rw [hwa] at hb2 ⊢
    have HRA := hide hra
    have HWA := hide hwa
    clear hra hwa
    by_cases hlt : k < n
    · obtain ⟨gb, cap', cur, hve, _, _, _, hLr0, _, htk⟩ := own_row (own_bel HL.out hb) (show 0 < l.length by rw [HN.out]; omega)
      obtain ⟨rfl, rfl⟩ : av = some ⟨gb, 0, none⟩ ∧ cap = cap' := by injection hve with e1 e2 e3; exact ⟨e1, e3⟩
      have hgl : gb < w.heap.size := (HL.out.lt gb rfl).2
      have hLr := hLr0
      obtain ⟨s, hs⟩ : ∃ s, l[k]? = some s := ⟨_, List.getElem?_eq_getElem (by rw [HN.out]; exact hlt)⟩
      have hmid := mid_s htk hs
      have hok := hw s (List.mem_of_getElem? hs)
      have ht1 : l.take (k + 1) = l.take k ++ [s] := by rw [List.take_add_one, hs]; rfl
      have hr1 : roomV false 0 (l.take (k + 1)) = if s.wr = false then moreN ra s.n else ra := by rw [ht1, roomV_app, HRA.out]; rfl
      have hw1 : roomV true 0 (l.take (k + 1)) = if s.wr = true then moreN wa s.n else wa := by rw [ht1, roomV_app, HWA.out]; rfl
      have HR1 := hide hr1
      have HW1 := hide hw1
      have HM1 : Hid (∀ W, Calls prog 93 #[.int .i64 ra, .int .i64 s.n] W fun e w' => e = .returned (.int .i64 (moreN ra s.n)) ∧ w' = W) := hide (fun W => more_any ra s.n hb1.1 hb1.2 hok.n0 hok.n1 W)
      have HM2 : Hid (∀ W, Calls prog 93 #[.int .i64 wa, .int .i64 s.n] W fun e w' => e = .returned (.int .i64 (moreN wa s.n)) ∧ w' = W) := hide (fun W => more_any wa s.n hb2.1 hb2.2 hok.n0 hok.n1 W)
      have hlt' : (k : Int) < (n : Int) := by omega
      obtain ⟨ND, hND0⟩ : ∃ x, wr.heap.size = x := ⟨_, rfl⟩
      have hND := hide hND0
      have hd1 : w.heap.size ≤ ND := hND0 ▸ hb.size
      clear hs htk hve ht1 hr1 hw1 hok hND0
      obtain ⟨sw, hsw⟩ : ∃ x, s.wr = x := ⟨_, rfl⟩
      rw [hsw] at HR1 HW1
      cases sw with
      | true =>
        rw [if_neg (by decide)] at HR1
        rw [if_pos rfl] at HW1
        go_wp2_with (first | ((with_reducible refine ld_sm gb (k * 3) s cur _ hLr hmid ?_ ?_); exact rfl) | ((with_reducible refine al_sp ND ?_ ?_); exact hND.out; intro W hsr hb' hz; have hbc := hND.out ▸ hb'; replace hb := hb.trans (hb'.mono (by omega)); replace hLr := hLr.bl hbc; clear hb' hbc) | ((with_reducible refine st_sp ND _ s hsr ?_ ?_ ?_); exact rfl; exact rfl; intro W hnew ho; replace hLr := hLr.only ho (by omega); replace hb := ho.bel _ _ (by omega) hb; replace hsr := hnew; clear hnew ho) | ((with_reducible refine ld_swr ND _ _ hsr ?_ ?_ ?_); exact rfl; exact rfl; rw [hsw]) | ((with_reducible refine ld_sn ND _ _ hsr ?_ ?_ ?_); exact rfl; exact rfl) | (go_at_call 93; (with_reducible refine (HM2.out _).mono ?_); rintro e W2 ⟨rfl, rfl⟩))
        go_roundw
        case rel => exact ⟨k + 1, hlt, by go_num, by rw [HR1.out], by rw [HW1.out], hb⟩
        case measure => simp [intOf]; omega
      | false =>
        rw [if_pos rfl] at HR1
        rw [if_neg (by decide)] at HW1
        go_wp2_with (first | ((with_reducible refine ld_sm gb (k * 3) s cur _ hLr hmid ?_ ?_); exact rfl) | ((with_reducible refine al_sp ND ?_ ?_); exact hND.out; intro W hsr hb' hz; have hbc := hND.out ▸ hb'; replace hb := hb.trans (hb'.mono (by omega)); replace hLr := hLr.bl hbc; clear hb' hbc) | ((with_reducible refine st_sp ND _ s hsr ?_ ?_ ?_); exact rfl; exact rfl; intro W hnew ho; replace hLr := hLr.only ho (by omega); replace hb := ho.bel _ _ (by omega) hb; replace hsr := hnew; clear hnew ho) | ((with_reducible refine ld_swr ND _ _ hsr ?_ ?_ ?_); exact rfl; exact rfl; rw [hsw]) | ((with_reducible refine ld_sn ND _ _ hsr ?_ ?_ ?_); exact rfl; exact rfl) | (go_at_call 93; (with_reducible refine (HM1.out _).mono ?_); rintro e W2 ⟨rfl, rfl⟩))
        go_roundw
        case rel => exact ⟨k + 1, hlt, by go_num, by rw [HR1.out], by rw [HW1.out], hb⟩
        case measure => simp [intOf]; omega
    · obtain rfl : k = n := by omega
      have ht : l.take k = l := by rw [← HN.out, List.take_length]
      rw [ht] at HRA HWA
      go_wp2
      go_ret2
      exact ⟨by rw [HRA.out, HWA.out]; rfl, hb⟩
end Go.Proofs.YtbggkoahofnnjaaGreatDoor
namespace Go.Proofs.YtbggkoahofnnjaaGreatDoor
open Go.RowKit
set_option maxHeartbeats 4000000
theorem own_lower2 {W : World} {B B' e sz n : Nat} {v : Value} {xs : List Value} (h : W.ownsRow B e sz v n xs) (hB : B' ≤ B) : W.ownsRow B' e sz v n xs := by
  refine ⟨h.1, h.2.imp id ?_⟩
  rintro ⟨g, cap, cur, rfl, hb, hgg, rest⟩
  exact ⟨g, cap, cur, rfl, by omega, hgg, rest⟩
structure BytesAt (w : World) (B : Nat) (la : Option Addr) (l : List Nat) : Prop where
  lies : 0 < l.length → ∃ b o, la = some ⟨b, o, none⟩ ∧ b < B ∧ ∀ j (h : j < l.length), w.cell? ⟨b, o + j, none⟩ = some (.int .u8 (l[j] : Nat))
  small : ∀ y ∈ l, y < 256
structure BytesO (w : World) (O : Nat → Prop) (la : Option Addr) (l : List Nat) : Prop where
  lies : 0 < l.length → ∃ b o, la = some ⟨b, o, none⟩ ∧ b < w.heap.size ∧ ¬ O b ∧ ∀ j (h : j < l.length), w.cell? ⟨b, o + j, none⟩ = some (.int .u8 (l[j] : Nat))
  small : ∀ y ∈ l, y < 256
theorem BytesAt.off {w : World} {B b p c : Nat} {f : Nat → Nat} {O : Nat → Prop} {la : Option Addr} {l : List Nat} (h : BytesAt w B la l) (hM : RamB w B b p f c O) : BytesO w O la l :=
  ⟨fun h0 => by
    obtain ⟨x, o, e, h1, h2⟩ := h.lies h0
    exact ⟨x, o, e, Nat.lt_of_lt_of_le h1 hM.base, fun k => absurd (hM.low _ k) (by omega), h2⟩, h.small⟩
def scatF (f : Nat → Nat) : List Sg → List Nat → (Nat → Nat)
  | [], _ => f
  | s :: t, l => scatF (wroteF f (plM s.at') (l.take s.n.toNat)) t (l.drop s.n.toNat)
def sumN : List Sg → Nat
  | [] => 0
  | s :: t => s.n.toNat + sumN t
theorem sumN_app : ∀ (l m : List Sg), sumN (l ++ m) = sumN l + sumN m
  | [], m => by simp [sumN]
  | s :: t, m => by simp only [List.cons_append, sumN, sumN_app t m]; omega
theorem scatF_app : ∀ (l m : List Sg) (f : Nat → Nat) (b : List Nat), scatF f (l ++ m) b = scatF (scatF f l b) m (b.drop (sumN l))
  | [], m, f, b => by simp [scatF, sumN]
  | s :: t, m, f, b => by
    simp only [List.cons_append, scatF, sumN]
    rw [scatF_app t m, List.drop_drop]
theorem parts_sum (wr : Bool) : ∀ (l : List Sg) (n : Int), 0 ≤ n → (sumN (partsV wr n l) : Int) ≤ n
  | [], n, h => by simp [partsV, sumN]; exact h
  | s :: t, n, h => by
    simp only [partsV]
    split
    · rename_i hx
      have := parts_sum wr t (n - if s.n ≤ n then s.n else n) (by split <;> omega)
      simp only [sumN]
      split at this <;> rename_i hq <;> simp only [hq, if_true, if_false] <;> omega
    · exact parts_sum wr t n h
theorem scato_long (l : List Sg) (hl : l.length ≤ 1000) (hw : ∀ s ∈ l, s.Ok) (bl : List Nat) (bcap : Nat) (ba : Option Addr) {w : World} {B b p c Bl : Nat} {v : Value} {f : Nat → Nat} {O : Nat → Prop} (h : RamB w B b p f c O) (hA : AreasAt w) (hG : 2 < B) (hL : w.ownsRow Bl 193 3 v l.length (segL l)) (hbl : BytesO w O ba bl) (hbc : bl.length ≤ bcap) (hbm : bcap ≤ 9223372036854775807) (hi : roomV true 0 l < (bl.length : Int)) : Calls prog 83 #[.pointer (some ⟨b, 0, none⟩), v, .slice ba bl.length bcap] w fun e w' => e = .returned (.iface 82 (.int .i64 2)) ∧ Below w.heap.size w w' := by
  have HR : Hid (Calls prog 54 #[v] w fun e w' => e = .returned (.tuple #[.int .i64 (roomV false 0 l), .int .i64 (roomV true 0 l)]) ∧ Below w.heap.size w w') := hide (room_any l (by omega) hw hL)
  obtain ⟨av, cap, rfl, _, _⟩ := own_form hL
  generalize roomV true 0 l = rw' at *
  generalize roomV false 0 l = rr at *
  generalize l.length = n at *
  generalize bl.length = m at *
  clear h hA hL hbl
  go_enter func83, ntmps83
  go_wp2_with (first | (go_at_call 54; (with_reducible refine HR.out.mono ?_); rintro e W ⟨rfl, hb⟩))
  go_ret
  exact ⟨rfl, hb⟩
set_option maxRecDepth 20000 in
theorem scato_ok (l : List Sg) (hl : l.length ≤ 1000) (hw : ∀ s ∈ l, s.Ok) (bl : List Nat) (bcap : Nat) (ba : Option Addr) {w : World} {B b p c Bl : Nat} {v : Value} {f : Nat → Nat} {O : Nat → Prop} (h : RamB w B b p f c O) (hA : AreasAt w) (hG : 2 < B) (hL : w.ownsRow Bl 193 3 v l.length (segL l)) (hbl : BytesO w O ba bl) (hbc : bl.length ≤ bcap) (hbm : bcap ≤ 9223372036854775807) (hi : (bl.length : Int) ≤ roomV true 0 l) (hin : (partsV true bl.length l).all (inS p) = true) (hc9 : c ≤ 900000000) : Calls prog 83 #[.pointer (some ⟨b, 0, none⟩), v, .slice ba bl.length bcap] w fun e w' => ∃ O', e = .returned .nilIface ∧ RamB w' B b p (scatF f (partsV true bl.length l) bl) (c + (partsV true bl.length l).length) O' ∧ Went B O O' w w' := by
  have HR : Hid (Calls prog 54 #[v] w fun e w' => e = .returned (.tuple #[.int .i64 (roomV false 0 l), .int .i64 (roomV true 0 l)]) ∧ Below w.heap.size w w') := hide (room_any l (by omega) hw hL)
  have HP : Hid (∀ W, Below w.heap.size w W → Calls prog 112 #[.pointer (some ⟨b, 0, none⟩), v, .bool true, .int .i64 (bl.length : Nat)] W fun e w' => Below W.heap.size W w' ∧ ∃ v', e = .returned (.tuple #[v', .nilIface]) ∧ w'.ownsRow w.heap.size 193 3 v' (partsV true bl.length l).length (segL (partsV true bl.length l))) := hide (fun W hb => (parts_any l (by omega) hw true (bl.length : Int) (by omega) (by omega) (h.bl hb) (hA.bl hb) (own_bel hL hb)).mono (by
    rintro e w' ⟨hb2, ⟨_, v', a1, a2⟩ | ⟨a2, _⟩⟩
    · exact ⟨hb2, v', a1, own_lower2 a2 hb.size⟩
    · rw [hin] at a2; cases a2))
  have hok := partsV_ok true l bl.length hw
  have hpn := partsV_len true l bl.length
  have hsum := parts_sum true l bl.length (by omega)
  generalize partsV true bl.length l = q at *
  obtain ⟨av, cap, rfl, _, _⟩ := own_form hL
  obtain ⟨n, hn⟩ : ∃ n, q.length = n := ⟨_, rfl⟩
  have HN := hide hn
  obtain ⟨M, hM0⟩ : ∃ n, bl.length = n := ⟨_, rfl⟩
  have HM0 := hide hM0
  rw [hn] at HP hpn ⊢
  rw [hM0] at HP hsum hbc hi ⊢
  have hall : ∀ s ∈ q, inS p s = true := List.all_eq_true.1 hin
  have HQ := hide (fun s hs => And.intro (hok s hs) (hall s hs))
  have HSM := hide hsum
  have HBL := hide hbl
  have hfew := h.few
  have hB0 := h.base
  have hGw : 2 < w.heap.size := Nat.lt_of_lt_of_le hG hB0
  have HH := hide h
  have HA0 := hide hA
  have hlong : ¬ roomV true 0 l < (M : Int) := by omega
  generalize roomV true 0 l = rw' at *
  generalize roomV false 0 l = rr at *
  clear hL hin hok hall hn h hA hbl hM0 hsum hi
  go_enter func83, ntmps83
  go_wp2_with (first | (go_at_call 54; (with_reducible refine HR.out.mono ?_); rintro e W ⟨rfl, hb⟩) | (go_at_call 112; (with_reducible refine (HP.out _ hb).mono ?_); rintro e W2 ⟨hb2, vq, rfl, hq⟩; obtain ⟨qa, qc, rfl, hqc1, hqc2⟩ := own_form hq; replace hb := hb.trans (hb2.mono hb.size); clear hb2))
  go_loopw [2, 39] (fun bv iv wr => ∃ (k : Nat) (O1 : Nat → Prop) (d : Nat) (oa : Option Addr), k ≤ n ∧ iv = .int .i64 (k : Nat) ∧ d = sumN (q.take k) ∧ d ≤ M ∧ bv = .slice oa (M - d) (bcap - d) ∧ (d < M → ∃ sb so, oa = some ⟨sb, so + d, none⟩ ∧ ba = some ⟨sb, so, none⟩) ∧ RamB wr B b p (scatF f (q.take k) bl) (c + k) O1 ∧ Went B O O1 w wr ∧ AreasAt wr ∧ wr.ownsRow w.heap.size 193 3 (.slice qa n qc) n (segL q) ∧ (∀ g, (Value.slice qa n qc).ownBlock = some g → ¬ O1 g)) (fun bv iv _ => n - (intOf iv).toNat)
  case atStart => exact ⟨0, O, 0, ba, Nat.zero_le _, rfl, rfl, Nat.zero_le _, rfl, (fun hm => by obtain ⟨sb, so, e, _⟩ := HBL.out.lies (by rw [HM0.out]; omega); exact ⟨sb, so, e, e⟩), HH.out.bl hb, Went.of hb hB0, HA0.out.bl hb, hq, (fun g e k => absurd (HH.out.lt g k) (by have := (hq.lt g e).1; omega))⟩
  case round =>
    clear hb hq
    obtain ⟨k, O1, d, oa, hk, rfl, hd, hdM, rfl, hoa, hM, hW, hA, hq, hqn⟩ := hrel
    have hS := hW.size
    have hB : B ≤ wr.heap.size := Nat.le_trans hB0 hS
    have HD := hide hd
    by_cases hlt : k < n
    · obtain ⟨gb, cap', cur, hve, _, _, hgB, hLr, _, htk⟩ := own_row hq (show 0 < n by omega)
      obtain ⟨rfl, rfl⟩ : qa = some ⟨gb, 0, none⟩ ∧ qc = cap' := by injection hve with e1 e2 e3; exact ⟨e1, e3⟩
      have hgl : gb < wr.heap.size := hLr.lt
      obtain ⟨s, hs⟩ : ∃ s, q[k]? = some s := ⟨_, List.getElem?_eq_getElem (by rw [HN.out]; exact hlt)⟩
      have hmid := mid_s htk hs
      obtain ⟨⟨hok, _, hps, _⟩, hin⟩ := HQ.out s (List.mem_of_getElem? hs)
      obtain ⟨N, hN⟩ := Int.eq_ofNat_of_zero_le (show 0 ≤ s.n by omega)
      have hNt : s.n.toNat = N := by omega
      have hN0 : 0 < N := by omega
      have hin2 : plM s.at' + N ≤ 4096 * p := plB_in (by unfold inS at hin; rwa [hNt] at hin) hN0
      have ht1 : q.take (k + 1) = q.take k ++ [s] := by rw [List.take_add_one, hs]; rfl
      have hsum1 : sumN (q.take (k + 1)) = d + N := by rw [ht1, sumN_app, ← hd]; simp [sumN, hNt]
      have hsle : sumN (q.take (k + 1)) ≤ sumN q := by
        conv => rhs; rw [← List.take_append_drop (k + 1) q, sumN_app]
        omega
      have hdN : d + N ≤ M := by have := HSM.out; omega
      obtain ⟨sb, so, rfl, hba⟩ := hoa (by omega)
      obtain ⟨sb', so', e', hsb, hsn, hcell⟩ := HBL.out.lies (by rw [HM0.out]; omega)
      obtain ⟨rfl, rfl⟩ : sb = sb' ∧ so = so' := by rw [hba] at e'; injection e' with e'; injection e' with e1 e2; exact ⟨e1, e2⟩
      have hscat : scatF f (q.take (k + 1)) bl = wroteF (scatF f (q.take k) bl) (plM s.at') ((bl.drop d).take N) := by rw [ht1, scatF_app, ← hd]; simp [scatF, hNt]
      have HSC := hide hscat
      have HS1 := hide hsum1
      have hlen : ((bl.drop d).take N).length = N := by rw [List.length_take, List.length_drop, HM0.out]; omega
      have hsrc : ∀ W O1, Went B O O1 w W → ∀ j v, (byteV ((bl.drop d).take N))[j]? = some v → W.cell? ⟨sb, so + d + j, none⟩ = some v := fun W O1 hb j v hj => by
        have hjN : j < N := by have := (List.getElem?_eq_some_iff.1 hj).1; rwa [byteV_len, hlen] at this
        have hjl : d + j < bl.length := by rw [HM0.out]; omega
        rw [cell_of_heap (hb.other sb hsb hsn), show so + d + j = so + (d + j) by omega, hcell (d + j) hjl]
        rw [byteV, List.getElem?_map, List.getElem?_take, if_pos hjN, List.getElem?_drop, List.getElem?_eq_getElem hjl] at hj
        exact hj
      have hsmall : ∀ y, y ∈ (bl.drop d).take N → y < 256 := fun y hy => HBL.out.small y (List.mem_of_mem_drop (List.mem_of_mem_take hy))
      have HIM : Hid (∀ W, AreasAt W → Calls prog 113 #[.int .u32 (s.at' : Nat)] W fun e w' => e = .returned (.int .u32 (plM s.at' : Nat)) ∧ Below W.heap.size W w') := hide (fun W hA => rinmem_any s.at' hok.at' W hA)
      have HWR : Hid (∀ W O1, RamB W B b p (scatF f (q.take k) bl) (c + k) O1 → Went B O O1 w W → Calls prog 75 #[.pointer (some ⟨b, 0, none⟩), .int .u32 (plM s.at' : Nat), .slice (some ⟨sb, so + d, none⟩) N (bcap - d)] W fun e w' => e = .returned .nilIface ∧ ∃ O', RamB w' B b p (scatF f (q.take (k + 1)) bl) (c + k + 1) O' ∧ Went B O1 O' W w') := hide (fun W O1 hM hW => by
        rw [HSC.out]
        exact write_b hM (plM s.at') (plM_lt hok.at') _ hsmall N hlen hN0 hin2 sb (so + d) (bcap - d) (by omega) (hsrc W O1 hW) (Nat.lt_of_lt_of_le hsb hW.size) (hW.no hsb hsn) (by omega))
      have hlt' : (k : Int) < (n : Int) := by omega
      obtain ⟨ND, hND0⟩ : ∃ x, wr.heap.size = x := ⟨_, rfl⟩
      have hND := hide hND0
      have hd1 : w.heap.size ≤ ND := hND0 ▸ hS
      have hd2 : B ≤ ND := hND0 ▸ hB
      have hd3 : gb < ND := hND0 ▸ hgl
      have hdO : ¬ O1 ND := fun e => absurd (hM.lt _ e) (by omega)
      have hqg := hqn gb rfl
      have HQO := hide (fun (V : World) (hr : RowAt V gb cur 193) => own_back hq hLr hr)
      obtain ⟨m', hm'⟩ : ∃ x, M - d = x := ⟨_, rfl⟩
      obtain ⟨c', hc'⟩ : ∃ x, bcap - d = x := ⟨_, rfl⟩
      rw [hc'] at HWR ⊢
      rw [hm']
      have b1 : N ≤ m' := by omega
      have b2 : m' ≤ c' := by omega
      have b3 : c' ≤ 9223372036854775807 := by omega
      have e1 : M - (d + N) = m' - N := by omega
      have e2 : bcap - (d + N) = c' - N := by omega
      have HE1 := hide e1
      have HE2 := hide e2
      have b1' : (N : Int) ≤ (m' : Int) := by omega
      have b2' : (N : Int) ≤ (c' : Int) := by omega
      have b3' : (m' : Int) ≤ (c' : Int) := by omega
      have HHd := hide hdN
      have HBA := hide hba
      obtain ⟨s1, hs1⟩ : ∃ x, so + d = x := ⟨_, rfl⟩
      rw [hs1] at HWR ⊢
      have HS9 := hide hs1
      generalize plM s.at' = pa at *
      obtain ⟨f2, hf2⟩ : ∃ x, scatF f (q.take (k + 1)) bl = x := ⟨_, rfl⟩
      rw [hf2] at HWR
      have HF2 := hide hf2
      generalize scatF f (q.take k) bl = f1 at *
      clear hs htk hve hok hin hin2 hND0 hps hNt hq hqn hd hoa ht1 hsum1 hsle hscat hlen hsrc hsmall hcell hdM hba e1 e2 hm' hc' hdN e' hs1 HSC hf2
      go_wp2_with (first | ((with_reducible refine ld_sm gb (k * 3) s cur _ hLr hmid ?_ ?_); exact rfl) | ((with_reducible refine al_sp ND ?_ ?_); exact hND.out; intro W hsr hb' hz; have hbc := hND.out ▸ hb'; replace hM := hM.bl hbc; replace hW := hW.bl hbc hB; replace hA := hA.bl hbc; replace hB := Nat.le_trans hB hbc.size; replace hS := Nat.le_trans hS hbc.size; replace hLr := hLr.bl hbc; clear hb' hbc hz) | ((with_reducible refine st_sp ND _ s hsr ?_ ?_ ?_); exact rfl; exact rfl; intro W hnew ho; replace hM := hM.only ho hdO; replace hW := hW.only ho (by omega) (by omega); replace hA := hA.onlyR ho (by omega); replace hLr := hLr.only ho (by omega); replace hS := (show w.heap.size ≤ W.heap.size by rw [ho.size]; exact hS); replace hB := (show B ≤ W.heap.size by rw [ho.size]; exact hB); replace hsr := hnew; clear hnew ho))
      refine wp_region_held_drew (S := (fun V => RowAt V ND s.cells 193)) (by kernel_rfl) ?_ (fun hHeld => ?_)
      · exact hsr.dr
      replace hM := hM.dr
      replace hW := hW.dr
      replace hA := hA.drR
      replace hLr := hLr.dr
      replace hS : w.heap.size ≤ (World.drew _).heap.size := hS
      replace hB : B ≤ (World.drew _).heap.size := hB
      generalize World.drew _ = V at hHeld hM hW hA hLr hS hB ⊢
      clear hsr
      refine tkO 0 (.pointer (some ⟨b, 0, none⟩)) (by simp only [gT, gZ]; rfl) (puO (by (intro w hSw; (try dsimp only at hSw); go_simp))) ?_
      simp only [Act.put, pA, pZ, pS]
      refine tkO 1 (.pointer (some ⟨ND, 0, none⟩)) (by simp only [gT, gZ, gS]; rfl) (puO (by (intro w hSw; (try dsimp only at hSw); go_simp))) ?_
      simp only [Act.put, pA, pZ, pS]
      refine tkO 2 (.int .u32 (s.at' : Nat)) (by simp only [gT, gZ, gS]; rfl) (y_sat ND s _ (fun V hV => hV) rfl) ?_
      simp only [Act.put, pA, pZ, pS]
      refine tkO 4 (.slice (some ⟨sb, s1, none⟩) m' c') (by simp only [gT, gZ, gS]; rfl) (puO (by (intro w hSw; (try dsimp only at hSw); go_simp))) ?_
      simp only [Act.put, pA, pZ, pS]
      refine tkO 5 (.pointer (some ⟨ND, 1, none⟩)) (by simp only [gT, gZ, gS]; rfl) (puO (by (intro w hSw; (try dsimp only at hSw); go_simp))) ?_
      simp only [Act.put, pA, pZ, pS]
      refine tkO 6 (.int .i64 s.n) (by simp only [gT, gZ, gS]; rfl) (y_sn ND s _ (fun V hV => hV) rfl) ?_
      simp only [Act.put, pA, pZ, pS]
      rw [hN]
      refine tkO 7 (.slice (some ⟨sb, s1, none⟩) N c') (by simp only [gT, gZ, gS]; rfl) (puO (by (intro w hSw; (try dsimp only at hSw); go_simp))) ?_
      simp only [Act.put, pA, pZ, pS]
      refine skO 3 (by simp only [gT, gZ, gS]; rfl) (fun K hK => ?_)
      rw [if_pos (by rfl)]
      go_simp
      (with_reducible refine (HIM.out _ hA).mono ?_)
      rintro e V2 ⟨rfl, hbc⟩
      have hH2 := hide (hHeld.bl hbc)
      replace hM := hM.bl hbc
      replace hW := hW.bl hbc hB
      replace hA := hA.bl hbc
      replace hLr := hLr.bl hbc
      replace hB := Nat.le_trans hB hbc.size
      replace hS := Nat.le_trans hS hbc.size
      clear hHeld hbc
      go_simp
      refine hK.out _ _ ?_ (fun hHeld => ?_)
      · exact hH2.out
      clear hK K
      clear hH2
      refine skO 8 (by simp only [gT, gZ, gS]; rfl) (fun K hK => ?_)
      rw [if_pos (by rfl)]
      go_simp
      (with_reducible refine (HWR.out _ _ hM hW).mono ?_)
      rintro e V3 ⟨rfl, O3, hM3, hW3⟩
      have hH2 := hide (hW3.row hHeld hdO)
      have hqg3 := hW3.no hLr.lt hqg
      replace hLr := hW3.row hLr hqg
      replace hA := hA.wentR hG hW3
      replace hS := Nat.le_trans hS hW3.size
      replace hW := hW.trans hW3
      replace hB := Nat.le_trans hB hW3.size
      clear hM hqg hW3 hHeld
      go_simp
      refine hK.out _ _ ?_ (fun hHeld => ?_)
      · exact hH2.out
      clear hK K
      clear hH2
      refine tkO 9 (.bool false) (by simp only [gT, gZ, gS]; rfl) (puO (by (intro w hSw; (try dsimp only at hSw); go_simp))) ?_
      simp only [Act.put, pA, pZ, pS]
      refine wpAnyH_done (by kernel_rfl) ?_ _
      have hsr := hHeld
      clear hHeld
      by_cases hcc : c' = N
      · subst hcc
        go_wp2_with (first | ((with_reducible refine ld_sn ND _ _ hsr ?_ ?_ ?_); exact rfl; exact rfl; rw [hN]))
        go_roundw
        case rel =>
          refine ⟨k + 1, _, d + c', _, hlt, by go_num, HS1.out.symm, HHd.out, by rw [HE1.out, HE2.out, Nat.sub_self, show m' - c' = 0 by omega], (fun hx => absurd hx (by have := HE1.out; omega)), by (rw [HF2.out, ← Nat.add_assoc]; exact hM3), hW, hA, HQO.out _ hLr, (fun g e => by cases e; exact hqg3)⟩
        case measure => simp [intOf]; omega
      · have hcc2 : N < c' := by omega
        have hcc3 : (N : Int) < (c' : Int) := by omega
        go_wp2_with (first | ((with_reducible refine ld_sn ND _ _ hsr ?_ ?_ ?_); exact rfl; exact rfl; rw [hN]))
        go_roundw
        case rel =>
          refine ⟨k + 1, _, d + N, _, hlt, by go_num, HS1.out.symm, HHd.out, by rw [HE1.out, HE2.out], (fun hx => ⟨sb, so, by rw [← Nat.add_assoc, HS9.out], HBA.out⟩), by (rw [HF2.out, ← Nat.add_assoc]; exact hM3), hW, hA, HQO.out _ hLr, (fun g e => by cases e; exact hqg3)⟩
        case measure => simp [intOf]; omega
    · obtain rfl : k = n := by omega
      have ht : q.take k = q := by rw [← HN.out, List.take_length]
      rw [ht] at hM
      go_wp2
      go_ret
      exact ⟨O1, rfl, hM, hW⟩
end Go.Proofs.YtbggkoahofnnjaaGreatDoor
namespace Go.Proofs.YtbggkoahofnnjaaGreatDoor
open Go.RowKit
set_option maxHeartbeats 1000000
def scatE (p : Nat) (l : List Sg) (n : Nat) : Nat := if roomV true 0 l < (n : Int) then 2 else if (partsV true n l).all (inS p) = true then 0 else 22
theorem scato_no (l : List Sg) (hl : l.length ≤ 1000) (hw : ∀ s ∈ l, s.Ok) (bl : List Nat) (bcap : Nat) (ba : Option Addr) {w : World} {B b p c Bl : Nat} {v : Value} {f : Nat → Nat} {O : Nat → Prop} (h : RamB w B b p f c O) (hA : AreasAt w) (hG : 2 < B) (hL : w.ownsRow Bl 193 3 v l.length (segL l)) (hbl : BytesO w O ba bl) (hbc : bl.length ≤ bcap) (hbm : bcap ≤ 9223372036854775807) (hi : (bl.length : Int) ≤ roomV true 0 l) (hin : (partsV true bl.length l).all (inS p) = false) : Calls prog 83 #[.pointer (some ⟨b, 0, none⟩), v, .slice ba bl.length bcap] w fun e w' => e = .returned (.iface 82 (.int .i64 22)) ∧ Below w.heap.size w w' := by
  have HR : Hid (Calls prog 54 #[v] w fun e w' => e = .returned (.tuple #[.int .i64 (roomV false 0 l), .int .i64 (roomV true 0 l)]) ∧ Below w.heap.size w w') := hide (room_any l (by omega) hw hL)
  have HP : Hid (∀ W, Below w.heap.size w W → Calls prog 112 #[.pointer (some ⟨b, 0, none⟩), v, .bool true, .int .i64 (bl.length : Nat)] W fun e w' => Below W.heap.size W w' ∧ e = .returned (.tuple #[.slice none 0 0, .iface 82 (.int .i64 22)])) := hide (fun W hb => (parts_any l (by omega) hw true (bl.length : Int) (by omega) (by omega) (h.bl hb) (hA.bl hb) (own_bel hL hb)).mono (by
    rintro e w' ⟨hb2, ⟨a2, _⟩ | ⟨_, a2⟩⟩
    · rw [hin] at a2; cases a2
    · exact ⟨hb2, a2⟩))
  obtain ⟨av, cap, rfl, _, _⟩ := own_form hL
  generalize bl.length = M at *
  have hlong : ¬ roomV true 0 l < (M : Int) := by omega
  generalize roomV true 0 l = rw' at *
  generalize roomV false 0 l = rr at *
  clear hL hin h hA hbl hi
  go_enter func83, ntmps83
  go_wp2_with (first | (go_at_call 54; (with_reducible refine HR.out.mono ?_); rintro e W ⟨rfl, hb⟩) | (go_at_call 112; (with_reducible refine (HP.out _ hb).mono ?_); rintro e W2 ⟨hb2, rfl⟩; replace hb := hb.trans (hb2.mono hb.size); clear hb2))
  go_ret
  exact ⟨rfl, hb⟩
theorem scato_any (l : List Sg) (hl : l.length ≤ 1000) (hw : ∀ s ∈ l, s.Ok) (bl : List Nat) (bcap : Nat) (ba : Option Addr) {w : World} {B b p c Bl : Nat} {v : Value} {f : Nat → Nat} {O : Nat → Prop} (h : RamB w B b p f c O) (hA : AreasAt w) (hG : 2 < B) (hL : w.ownsRow Bl 193 3 v l.length (segL l)) (hbl : BytesO w O ba bl) (hbc : bl.length ≤ bcap) (hbm : bcap ≤ 9223372036854775807) (hc9 : c ≤ 900000000) : Calls prog 83 #[.pointer (some ⟨b, 0, none⟩), v, .slice ba bl.length bcap] w fun e w' => e = .returned (errR (scatE p l bl.length)) ∧ ∃ O', RamB w' B b p (if scatE p l bl.length = 0 then scatF f (partsV true bl.length l) bl else f) (c + l.length) O' ∧ Went B O O' w w' := by
  unfold scatE
  by_cases h1 : roomV true 0 l < (bl.length : Int)
  · rw [if_pos h1]
    refine (scato_long l hl hw bl bcap ba h hA hG hL hbl hbc hbm h1).mono ?_
    rintro e w' ⟨rfl, hb⟩
    exact ⟨rfl, O, by rw [if_neg (by decide)]; exact (h.bl hb).more (by omega), Went.of hb h.base⟩
  · rw [if_neg h1]
    by_cases h2 : (partsV true bl.length l).all (inS p) = true
    · rw [if_pos h2]
      refine (scato_ok l hl hw bl bcap ba h hA hG hL hbl hbc hbm (by omega) h2 hc9).mono ?_
      rintro e w' ⟨O', rfl, hM, hW⟩
      exact ⟨rfl, O', by rw [if_pos rfl]; exact hM.more (by have := partsV_len true l bl.length; omega), hW⟩
    · rw [if_neg h2]
      refine (scato_no l hl hw bl bcap ba h hA hG hL hbl hbc hbm (by omega) (by simpa using h2)).mono ?_
      rintro e w' ⟨rfl, hb⟩
      exact ⟨rfl, O, by rw [if_neg (by decide)]; exact (h.bl hb).more (by omega), Went.of hb h.base⟩
end Go.Proofs.YtbggkoahofnnjaaGreatDoor
namespace Go.Proofs.YtbggkoahofnnjaaGreatDoor
open Go.RowKit
set_option maxHeartbeats 2000000
attribute [local go_sem] Rg.at0 Rg.at1 Rg.at2 Rg.at3 Rg.at4 Rg.at5
def usH (r : Rg) : Nat := t32 (r.us + 4 + 8 * slotN r r.pu)
def usN (r : Rg) : Nat := t32 (usH r + 4)
def usC (r : Rg) : Nat := t32 (r.us + 2)
def givenR (r : Rg) : Rg := { r with pu := (r.pu + 1) % 65536 }
def giveF (r : Rg) (f : Nat → Nat) (h n : Nat) : Nat → Nat :=
  wroteF (wroteF (wroteF f (plM (usH r)) (numB h 4)) (plM (usN r)) (numB n 4)) (plM (usC r)) (numB ((r.pu + 1) % 65536) 2)
theorem usN_in {r : Rg} {p : Nat} (hp : p ≤ 16384) (h : plB p (usH r) 8 = true) : plM (usN r) = plM (usH r) + 4 ∧ plB p (usN r) 4 = true ∧ plB p (usH r) 4 = true := by
  have h1 := plB_in h (by decide)
  have hl : usH r < 4294967296 := Nat.mod_lt _ (by decide)
  have e : plM (usN r) = plM (usH r) + 4 := by
    unfold usN t32 plM at *
    split at h1 <;> split <;> omega
  refine ⟨e, ?_, ?_⟩
  · unfold plB; rw [e]; exact decide_eq_true (by omega)
  · unfold plB; exact decide_eq_true (by omega)
theorem give_ok (r : Rg) (hr0 : r.Ok) (hc : chkR r = true) {w : World} {B b p c : Nat} {f : Nat → Nat} {O : Nat → Prop} (h : RamB w B b p f c O) (hA : AreasAt w) (hG : 2 < B) (hd n : Nat) (hh : (hd : Int) < r.sz) (hn : n < 4294967296) (h1 : plB p (usH r) 8 = true) (h3 : plB p (usC r) 2 = true) (hcc : c ≤ 900000000) :
    Calls prog 84 #[.agg r.cells, .pointer (some ⟨b, 0, none⟩), .int .i64 (hd : Nat), .int .u32 (n : Nat)] w fun e w' => e = .returned (.tuple #[.agg (givenR r).cells, .nilIface]) ∧ ∃ O', RamB w' B b p (giveF r f hd n) (c + 1 + 1 + 1) O' ∧ Went B O O' w w' := by
  have hB0 := h.base
  have hGw : 2 < w.heap.size := Nat.lt_of_lt_of_le hG hB0
  have hA0 := hA
  clear hA
  obtain ⟨k, hk, hk0, hk1⟩ := chkR_sz hc
  obtain ⟨al1, al2, al3⟩ := chkR_al hc
  have HC : Hid (∀ W, Calls prog 105 #[.agg r.cells, .pointer (some ⟨b, 0, none⟩)] W fun e w' => e = .returned .nilIface ∧ Below W.heap.size W w') := hide (fun W => by have := rcheckw_any r hr0 b W; rw [hc] at this; exact this)
  have hpu := hr0.pu
  have hus := hr0.us
  have hfew := h.few
  obtain ⟨q1, q2, q3⟩ := usN_in hfew h1
  have hdl : hd < 256 := by omega
  have hsl := slotN_lt hc r.pu
  have b1 : usH r < 4294967296 ∧ usN r < 4294967296 ∧ usC r < 4294967296 := ⟨Nat.mod_lt _ (by decide), Nat.mod_lt _ (by decide), Nat.mod_lt _ (by decide)⟩
  have b2 : usH r % 4 = 0 ∧ usN r % 4 = 0 ∧ usC r % 2 = 0 := by unfold usN usC usH t32; omega
  have HH : Hid (∀ W, Calls prog 114 #[.agg r.cells, .int .i64 (hd : Nat)] W fun e w' => e = .returned (.bool true) ∧ Below W.heap.size W w') := hide (fun W => by have := ishead_any r (hd : Int) W; rwa [decide_eq_true (by omega)] at this)
  have HS : Hid (∀ W, Calls prog 107 #[.agg r.cells, .int .u16 (r.pu : Nat)] W fun e w' => e = .returned (.int .u32 (slotN r r.pu : Nat)) ∧ Below W.heap.size W w') := hide (fun W => slot_any r hc r.pu hpu W)
  have HN : Hid (∀ W O1, RamB W B b p f c O1 → AreasAt W → Calls prog 115 #[.pointer (some ⟨b, 0, none⟩), .int .u32 (usH r : Nat), .int .u64 8] W fun e w' => e = .returned (.bool true) ∧ Below W.heap.size W w') := hide (fun W O1 hM hA => by have := isin_b hM hA (usH r) 8 b1.1 (by decide); rwa [h1] at this)
  have H1 : Hid (∀ W O1, RamB W B b p (f) (c) O1 → AreasAt W → Calls prog 116 #[.pointer (some ⟨b, 0, none⟩), .int .u32 (usH r : Nat), .int .i64 4, .int .u32 (hd : Nat)] W fun e w' => e = .returned .nilIface ∧ ∃ O', RamB w' B b p (wroteF f (plM (usH r)) (numB hd 4)) (c + 1) O' ∧ Went B O1 O' W w') := hide (fun W O1 hM hA => rstore_yes hM hA hG (usH r) 4 b1.1 (by decide) b2.1 q3 hd (by omega) (by omega))
  have H2 : Hid (∀ W O1, RamB W B b p (wroteF f (plM (usH r)) (numB hd 4)) (c + 1) O1 → AreasAt W → Calls prog 116 #[.pointer (some ⟨b, 0, none⟩), .int .u32 (usN r : Nat), .int .i64 4, .int .u32 (n : Nat)] W fun e w' => e = .returned .nilIface ∧ ∃ O', RamB w' B b p (wroteF (wroteF f (plM (usH r)) (numB hd 4)) (plM (usN r)) (numB n 4)) (c + 1 + 1) O' ∧ Went B O1 O' W w') := hide (fun W O1 hM hA => rstore_yes hM hA hG (usN r) 4 b1.2.1 (by decide) b2.2.1 q2 n hn (by omega))
  have H3 : Hid (∀ W O1, RamB W B b p (wroteF (wroteF f (plM (usH r)) (numB hd 4)) (plM (usN r)) (numB n 4)) (c + 1 + 1) O1 → AreasAt W → Calls prog 116 #[.pointer (some ⟨b, 0, none⟩), .int .u32 (usC r : Nat), .int .i64 2, .int .u32 ((r.pu + 1) % 65536 : Nat)] W fun e w' => e = .returned .nilIface ∧ ∃ O', RamB w' B b p (giveF r f hd n) (c + 1 + 1 + 1) O' ∧ Went B O1 O' W w') := hide (fun W O1 hM hA => rstore_yes hM hA hG (usC r) 2 b1.2.2 (by decide) b2.2.2 h3 _ (by omega) (by omega))
  have e1 : ((r.us : Int) + 2) % 4294967296 = ((usC r : Nat) : Int) := by unfold usC t32; omega
  have e2 : (((r.us : Int) + 4) % 4294967296 + (8 * ((slotN r r.pu : Nat) : Int))) % 4294967296 = ((usH r : Nat) : Int) := by unfold usH t32; omega
  have en : ((usH r : Int) + 4) % 4294967296 = ((usN r : Nat) : Int) := by unfold usN t32; omega
  have en2 : IntKind.u32.wrap ((usH r : Int) + 4) = ((usN r : Nat) : Int) := by rw [IntKind.wrap_u32]; exact en
  generalize wroteF (wroteF f (plM (usH r)) (numB hd 4)) (plM (usN r)) (numB n 4) = f2 at *
  generalize wroteF f (plM (usH r)) (numB hd 4) = f1 at *
  generalize giveF r f hd n = f3 at *
  generalize usC r = aC at *
  generalize usN r = aN at *
  generalize usH r = aH at *
  generalize slotN r r.pu = sl at *
  have e3 : Hid (IntKind.u32.wrap (8 * (sl : Int)) = 8 * (sl : Int)) := hide (by rw [IntKind.wrap_u32]; omega)
  have e4 : Hid (IntKind.u32.wrap ((r.us : Int) + 4) = ((r.us : Int) + 4) % 4294967296) := hide (by rw [IntKind.wrap_u32])
  have e5 : Hid (IntKind.u32.wrap (((r.us : Int) + 4) % 4294967296 + (8 * ((sl : Nat) : Int))) = (aH : Int)) := hide (by rw [IntKind.wrap_u32]; exact e2)
  obtain ⟨pn, hpn⟩ : ∃ x, (r.pu + 1) % 65536 = x := ⟨_, rfl⟩
  have e6 : Hid (((r.pu : Int) + 1) % 65536 = (pn : Int)) := hide (by omega)
  have hpl : pn < 65536 := by omega
  have htr : ({ r with pu := pn } : Rg) = givenR r := by unfold givenR; rw [hpn]
  rw [hpn] at H3
  have hgp : (givenR r).pu = pn := hpn
  have hgu : (givenR r).us = r.us := rfl
  clear hk hr0 hc al1 al2 al3 h1 h3 q1 q2 q3 b1 b2 e2 hh hcc hpn
  go_enter func84, ntmps84
  go_wp2_with (first | ((with_reducible refine bx_rp w.heap.size r ?_ ?_ ?_); exact rfl; exact rfl; intro W hr hb hz) | ((with_reducible refine al_rp (w.heap.size + 1) ?_ ?_); exact hz.out; intro W hq hb' hz'; replace hr := hr.bl (hz.out ▸ hb'); replace hb := hb.trans (hb'.mono (by omega)); replace hz := hz'; have hM := h.bl hb; have hW := Went.of (O := O) hb hB0; have hA := hA0.bl hb; have hF := h.far 2; have hS : w.heap.size + 2 ≤ W.heap.size := Nat.le_of_eq hz.out.symm; have hB : B ≤ W.heap.size := Nat.le_trans hB0 hb.size; clear hb hz hb' hz') | ((with_reducible refine ld_rp w.heap.size _ hr ?_ ?_ ?_); exact rfl; exact rfl) | (go_at_call 105; (with_reducible refine (HC.out _).mono ?_); rintro e W ⟨rfl, hbc⟩; replace hM := hM.bl hbc; replace hW := hW.bl hbc hB; replace hA := hA.bl hbc; replace hB := Nat.le_trans hB hbc.size; replace hS := Nat.le_trans hS hbc.size; replace hr := hr.bl hbc; replace hq := hq.bl hbc) | (go_at_call 114; (with_reducible refine (HH.out _).mono ?_); rintro e W ⟨rfl, hbc⟩; replace hM := hM.bl hbc; replace hW := hW.bl hbc hB; replace hA := hA.bl hbc; replace hB := Nat.le_trans hB hbc.size; replace hS := Nat.le_trans hS hbc.size; replace hr := hr.bl hbc; replace hq := hq.bl hbc))
  refine wp_region_held_drew (S := (fun V => RowAt V w.heap.size r.cells 34)) (by kernel_rfl) ?_ (fun hHeld => ?_)
  · exact hr.dr
  replace hM := hM.dr
  replace hW := hW.dr
  replace hA := hA.drR
  replace hS : w.heap.size + 2 ≤ (World.drew _).heap.size := hS
  replace hB : B ≤ (World.drew _).heap.size := hB
  replace hq := hq.dr
  generalize World.drew _ = V at hHeld hM hW hA hS hB hq ⊢
  clear hr
  refine tkO 0 (.pointer (some ⟨w.heap.size, 3, none⟩)) (by simp only [gT, gZ]; rfl) (puO (by (intro w hSw; (try dsimp only at hSw); go_simp))) ?_
  simp only [Act.put, pA, pZ, pS]
  refine tkO 1 (.int .u32 (r.us : Nat)) (by simp only [gT, gZ, gS]; rfl) (y_rus w.heap.size r _ (fun V hV => hV) rfl) ?_
  simp only [Act.put, pA, pZ, pS]
  refine tkO 2 (.int .u32 (((r.us : Int) + 4) % 4294967296)) (by simp only [gT, gZ, gS]; rfl) (puO (by (intro w hSw; (try dsimp only at hSw); go_simp ; exact e4.out))) ?_
  simp only [Act.put, pA, pZ, pS]
  refine tkO 3 (.agg r.cells) (by simp only [gT, gZ, gS]; rfl) (y_rp w.heap.size r (fun V hV => hV) rfl rfl) ?_
  simp only [Act.put, pA, pZ, pS]
  refine tkO 4 (.pointer (some ⟨w.heap.size, 5, none⟩)) (by simp only [gT, gZ, gS]; rfl) (puO (by (intro w hSw; (try dsimp only at hSw); go_simp))) ?_
  simp only [Act.put, pA, pZ, pS]
  refine tkO 5 (.int .u16 (r.pu : Nat)) (by simp only [gT, gZ, gS]; rfl) (y_rpu w.heap.size r _ (fun V hV => hV) rfl) ?_
  simp only [Act.put, pA, pZ, pS]
  refine skO 6 (by simp only [gT, gZ, gS]; rfl) (fun K hK => ?_)
  rw [if_pos (by rfl)]
  go_simp
  (with_reducible refine (HS.out _).mono ?_)
  rintro e V2 ⟨rfl, hbc⟩
  have hH2 := hide (hHeld.bl hbc)
  replace hM := hM.bl hbc
  replace hW := hW.bl hbc hB
  replace hA := hA.bl hbc
  replace hB := Nat.le_trans hB hbc.size
  replace hS := Nat.le_trans hS hbc.size
  replace hq := hq.bl hbc
  clear hHeld hbc
  go_simp
  refine hK.out _ _ ?_ (fun hHeld => ?_)
  · exact hH2.out
  clear hK K
  clear hH2
  refine tkO 7 (.int .u32 (8 * (sl : Int))) (by simp only [gT, gZ, gS]; rfl) (puO (by (intro w hSw; (try dsimp only at hSw); go_simp ; exact e3.out))) ?_
  simp only [Act.put, pA, pZ, pS]
  refine tkO 8 (.int .u32 (aH : Nat)) (by simp only [gT, gZ, gS]; rfl) (puO (by (intro w hSw; (try dsimp only at hSw); go_simp ; exact e5.out))) ?_
  simp only [Act.put, pA, pZ, pS]
  refine tkO 9 (.int .u32 (aH : Nat)) (by simp only [gT, gZ, gS]; rfl) (puO (by (intro w hSw; (try dsimp only at hSw); go_simp))) ?_
  simp only [Act.put, pA, pZ, pS]
  refine wpAnyH_done (by kernel_rfl) ?_ _
  have hr := hHeld
  clear hHeld
  go_wp2_with (first | (go_at_call 115; (with_reducible refine (HN.out _ _ hM hA).mono ?_); rintro e W ⟨rfl, hbc⟩; replace hM := hM.bl hbc; replace hW := hW.bl hbc hB; replace hA := hA.bl hbc; replace hB := Nat.le_trans hB hbc.size; replace hS := Nat.le_trans hS hbc.size; replace hr := hr.bl hbc; replace hq := hq.bl hbc) | (go_at_call 116; (with_reducible refine (H1.out _ _ hM hA).mono ?_); rintro e W2 ⟨rfl, O2, hM2, hW2⟩; replace hr := hW2.row hr (hF.at 0 (by omega)); replace hq := hW2.row hq (hF.at 1 (by omega)); replace hA := hA.wentR hG hW2; replace hF := hF.went hW2 hS; replace hS := Nat.le_trans hS hW2.size; replace hW := hW.trans hW2; replace hB := Nat.le_trans hB hW2.size; replace hM := hM2; clear hM2 hW2) | (go_at_call 116; (with_reducible refine (H2.out _ _ hM hA).mono ?_); rintro e W2 ⟨rfl, O2, hM2, hW2⟩; replace hr := hW2.row hr (hF.at 0 (by omega)); replace hq := hW2.row hq (hF.at 1 (by omega)); replace hA := hA.wentR hG hW2; replace hF := hF.went hW2 hS; replace hS := Nat.le_trans hS hW2.size; replace hW := hW.trans hW2; replace hB := Nat.le_trans hB hW2.size; replace hM := hM2; clear hM2 hW2) | (go_at_call 116; (with_reducible refine (H3.out _ _ hM hA).mono ?_); rintro e W2 ⟨rfl, O2, hM2, hW2⟩; replace hr := hW2.row hr (hF.at 0 (by omega)); replace hq := hW2.row hq (hF.at 1 (by omega)); replace hA := hA.wentR hG hW2; replace hF := hF.went hW2 hS; replace hS := Nat.le_trans hS hW2.size; replace hW := hW.trans hW2; replace hB := Nat.le_trans hB hW2.size; replace hM := hM2; clear hM2 hW2) | ((with_reducible refine ld_rus w.heap.size _ _ hr ?_ ?_ ?_); exact rfl; exact rfl) | ((with_reducible refine ld_rpu w.heap.size _ _ hr ?_ ?_ ?_); exact rfl; exact rfl) | ((with_reducible refine st_rpu w.heap.size _ pn _ hr ?_ ?_ ?_); exact rfl; (exact congrArg _ e6.out); intro W hnew ho; rw [htr] at hnew; replace hq := hq.only ho (by omega); replace hM := hM.only ho (hF.at 0 (by omega)); replace hA := hA.onlyR ho (by omega); replace hW := hW.only ho (by omega) (by omega); replace hS := (show w.heap.size + 2 ≤ W.heap.size by rw [ho.size]; exact hS); replace hB := (show B ≤ W.heap.size by rw [ho.size]; exact hB); replace hr := hnew; clear hnew ho) | ((with_reducible refine ld_rp w.heap.size (givenR r) hr ?_ ?_ ?_); exact rfl; exact rfl) | ((with_reducible refine st_rp (w.heap.size + 1) _ (givenR r) hq ?_ ?_ ?_); exact rfl; exact rfl; intro W hnew ho; replace hr := hr.only ho (by omega); replace hM := hM.only ho (hF.at 1 (by omega)); replace hA := hA.onlyR ho (by omega); replace hW := hW.only ho (by omega) (by omega); replace hS := (show w.heap.size + 2 ≤ W.heap.size by rw [ho.size]; exact hS); replace hB := (show B ≤ W.heap.size by rw [ho.size]; exact hB); replace hq := hnew; clear hnew ho))
  refine bodyPost_ret (results_cell_u results84 _ _ (w.heap.size + 1) _ _ _ rfl hq underlying34 rfl size_rp) rfl ?_
  exact ⟨rfl, _, hM, hW⟩
end Go.Proofs.YtbggkoahofnnjaaGreatDoor
