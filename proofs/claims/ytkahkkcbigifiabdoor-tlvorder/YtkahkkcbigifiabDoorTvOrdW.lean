/-
  TlvOrder, walked.
-/
import Derived.Test.YtkahkkcbigifiabDoorTvConP
import Derived.Test.YtkahkkcbigifiabDoorTvRows
namespace Go.Proofs.YtkahkkcbigifiabDoor
open Go.RowKit
set_option linter.unusedVariables false
set_option linter.unusedSimpArgs false

variable {P : Program} {ops : Array Oper} {rest : List Oper} {dst : Option Tmp} {ty t t2 : TypeId} {pos : String} {after : Array Edge} {a : Act} {w : World} {Q : Exit → Act → World → Prop} {K : Act → World → Prop} {x y z : Operand} {gd : Option (Nat × Bool)}
theorem und_tu : Tryd.prog.underlying 22 = some (.slice 23) := Tryd.underlying22
theorem siz_tu : ∀ w : World, (sizeOf 23).run Tryd.prog w = .ok 1 w := fun w => by kernel_rfl
theorem ex_idxU (b off len cap k : Nat) (hk : k < len) (hx : a.eval x = .slice (some ⟨b, off, none⟩) len cap) (hy : a.eval y = .int .i64 (k : Nat)) (w : World) :
    (execOp a.eval ⟨dst, .indexAddr 22 x y, ty, pos, after, gd⟩).run Tryd.prog w = .ok (.value (.pointer (some ⟨b, off + k, none⟩))) w := by
  have hk1 : (0 : Int) ≤ (k : Int) ∧ (k : Int) < (len : Int) := by omega
  have hk2 : ¬ len ≤ k := by omega
  unfold execOp
  simp [hx, hy, Instr.indexAt, asIntOf, run_underlying und_tu, hk1, hk2, siz_tu, Addr.add_lit]
theorem newc2 (w : World) (ob : Obj) (cs : Array Value) (t : TypeId) (j : Nat) (v : Value) (h : cs[j]? = some v) : ((w.alloc ob).alloc (.cells cs t)).cell? ⟨w.heap.size + 1, j, none⟩ = some v := by
  have := newc (w.alloc ob) cs t j v h
  simpa using this
theorem ownX_blk {lv : Value} {g n : Nat} {l : List Nat} (hr : RowAt w g (byV l).toArray t) (hl : ∀ c ∈ l, c < 256) (hn : l.length = n) (hm : n ≤ 9223372036854775807) (hlv : ∀ k, lv.ownBlock = some k → k < g) : OwnX w lv (.slice (some ⟨g, 0, none⟩) n n) l := by
  have h := rd_row hr hl n hn hm
  subst hn
  obtain ⟨h1, a, cap, h2, h3, h4, h5⟩ := h
  refine ⟨h1, a, cap, h2, h3, h4, fun h0 => ?_⟩
  obtain ⟨b, off, e1, e2, e3⟩ := h5 h0
  refine ⟨b, off, e1, fun hh => ?_, e3⟩
  subst e1
  injection h2 with h2 _ _
  injection h2 with h2
  injection h2 with h2 _ _
  have := hlv b hh
  omega
def OrRel (l : List Nat) (n N : Nat) (w0 : World) (lv rv iv : Value) (wr : World) : Prop := ∃ k : Nat, k ≤ n ∧ iv = .int .i64 (k : Nat) ∧ rv = .bool (riseB l k) ∧ OwnU N 27 wr lv (ordL l k) ∧ Below N w0 wr
def Or2Rel (l : List Nat) (tag n : Nat) (iv : Value) : Prop := ∃ k : Nat, k ≤ n ∧ iv = .int .i64 (k : Nat) ∧ ∀ j, j < k → l.getD j 0 ≠ tag
set_option maxRecDepth 100000 in
set_option maxHeartbeats 8000000 in
theorem order_walk {v : Value} {l : List Nat} (tag : Nat) (htag : tag < 4294967296) (w : World) (h : TagsAt w.heap.size w v l) (hH : HandleAt w) (hT : TabAt w) :
    Calls Tryd.prog 3 #[v, .int .u32 (tag : Nat)] w fun e w' => e = .returned (.bool true) ∧ Below w.heap.size w w' := by
  obtain ⟨i0, hi0, hz0, hs0, hb0⟩ := info_ts
  have HI := hide hi0
  have HZ := hide hz0
  have HS := hide hs0
  have HB64 := hide (show i0.bytes ≤ 64 by rw [hb0]; decide)
  clear hi0 hz0 hs0 hb0
  have HA := hide h
  have HTLT := hide (fun j => h.lt j)
  have HT := hide hT
  have HH := hide hH
  obtain ⟨ad, cap, hv0, hcap, hmax⟩ := h.2.form
  subst hv0
  obtain ⟨len, hlen⟩ : ∃ q, l.length = q := ⟨_, rfl⟩
  have HLEN := hide hlen
  rw [hlen] at hcap ⊢
  obtain ⟨n, hn⟩ : ∃ q, min len 50 = q := ⟨_, rfl⟩
  have hb : Below w.heap.size w w := Below.refl _ w
  have hn50 : n ≤ 50 := by omega
  have hnl : n ≤ len := by omega
  clear h hH hT hlen
  go_enter Tryd.func3, Tryd.ntmps3
  go_wp2
  go_loopw [5, 6, 7] (OrRel l n w.heap.size w) (fun _ _ iv _ => n - (intOf iv).toNat)
  case atStart => exact ⟨0, Nat.zero_le _, rfl, rfl, OwnU.nil _ _ _, hb⟩
  case round =>
    clear hb
    obtain ⟨k, hk, rfl, rfl, hown, hb⟩ := hrel
    have HO := hide hown
    clear hown
    by_cases hlt : k < n
    · obtain ⟨b, off, cap', hv, _, _, hbB, HC⟩ := HA.out.all (by have := HLEN.out; omega)
      injection hv with hv hv2 hv3
      subst hv hv3
      clear hv2
      have hbw : b < wr.heap.size := Nat.lt_of_lt_of_le hbB hb.size
      have hlk : k < len := by omega
      have hl50 : k < 50 := by omega
      have HCT := hide ((hb.cell (p := ⟨b, off + k, none⟩) hbB).trans (HC.out k (by have := HLEN.out; omega)))
      obtain ⟨tg, htg⟩ : ∃ q, l.getD k 0 = q := ⟨_, rfl⟩
      have htgl := HTLT.out k
      rw [htg] at HCT htgl
      have HTG := hide htg
      cases hris : riseB l k with
      | false =>
        have RIS := hide (show riseB l (k + 1) = false by rw [riseB, hris]; rfl)
        clear htg
        go_wp2
        refine wp_region_held_drew (S := (fun U => Below wr.heap.size wr U)) (by kernel_rfl) ?_ (fun hHeld => ?_)
        · exact (Below.refl _ wr).drew
        generalize wr.drew = V at hHeld ⊢
        refine wpAnyH_take (i := 0) (oi := ?oi1) (v := .bool false) ?hi1 (by kernel_rfl) (by kernel_rfl) (by kernel_rfl) ?hQ1 ?hy1 (by assumption) ?rest1
        case hi1 => (simp only [List.getElem?_toArray, List.getElem?_cons_zero]; rfl)
        case hQ1 => exact fun _ _ _ h => h
        case hy1 => exact Or.inl ⟨by rfl, by (intro w hSw; (try dsimp only at hSw); go_simp )⟩
        simp only [Act.put, List.setIfInBounds_toArray, List.set_cons_zero, List.set_cons_succ]
        refine wpAnyH_take (i := 1) (oi := ?oi2) (v := .bool false) ?hi2 (by kernel_rfl) (by kernel_rfl) (by kernel_rfl) ?hQ2 ?hy2 (by assumption) ?rest2
        case hi2 => (simp only [List.getElem?_toArray, List.getElem?_cons_zero, List.getElem?_cons_succ]; rfl)
        case hQ2 => exact fun _ _ _ h => h
        case hy2 => exact Or.inl ⟨by rfl, by (intro w hSw; (try dsimp only at hSw); go_simp )⟩
        simp only [Act.put, List.setIfInBounds_toArray, List.set_cons_zero, List.set_cons_succ]
        refine wpAnyH_take (i := 2) (oi := ?oi3) (v := undef) ?hi3 (by kernel_rfl) (by kernel_rfl) (by kernel_rfl) ?hQ3 ?hy3 (by assumption) ?rest3
        case hi3 => (simp only [List.getElem?_toArray, List.getElem?_cons_zero, List.getElem?_cons_succ]; rfl)
        case hQ3 => exact fun _ _ _ h => h
        case hy3 => exact Or.inr ⟨by rfl, rfl⟩
        simp only [Act.put, List.setIfInBounds_toArray, List.set_cons_zero, List.set_cons_succ]
        refine wpAnyH_take (i := 3) (oi := ?oi4) (v := undef) ?hi4 (by kernel_rfl) (by kernel_rfl) (by kernel_rfl) ?hQ4 ?hy4 (by assumption) ?rest4
        case hi4 => (simp only [List.getElem?_toArray, List.getElem?_cons_zero, List.getElem?_cons_succ]; rfl)
        case hQ4 => exact fun _ _ _ h => h
        case hy4 => exact Or.inr ⟨by rfl, rfl⟩
        simp only [Act.put, List.setIfInBounds_toArray, List.set_cons_zero, List.set_cons_succ]
        refine wpAnyH_take (i := 4) (oi := ?oi5) (v := undef) ?hi5 (by kernel_rfl) (by kernel_rfl) (by kernel_rfl) ?hQ5 ?hy5 (by assumption) ?rest5
        case hi5 => (simp only [List.getElem?_toArray, List.getElem?_cons_zero, List.getElem?_cons_succ]; rfl)
        case hQ5 => exact fun _ _ _ h => h
        case hy5 => exact Or.inr ⟨by rfl, rfl⟩
        simp only [Act.put, List.setIfInBounds_toArray, List.set_cons_zero, List.set_cons_succ]
        refine wpAnyH_take (i := 5) (oi := ?oi6) (v := undef) ?hi6 (by kernel_rfl) (by kernel_rfl) (by kernel_rfl) ?hQ6 ?hy6 (by assumption) ?rest6
        case hi6 => (simp only [List.getElem?_toArray, List.getElem?_cons_zero, List.getElem?_cons_succ]; rfl)
        case hQ6 => exact fun _ _ _ h => h
        case hy6 => exact Or.inr ⟨by rfl, rfl⟩
        simp only [Act.put, List.setIfInBounds_toArray, List.set_cons_zero, List.set_cons_succ]
        refine wpAnyH_take (i := 6) (oi := ?oi7) (v := undef) ?hi7 (by kernel_rfl) (by kernel_rfl) (by kernel_rfl) ?hQ7 ?hy7 (by assumption) ?rest7
        case hi7 => (simp only [List.getElem?_toArray, List.getElem?_cons_zero, List.getElem?_cons_succ]; rfl)
        case hQ7 => exact fun _ _ _ h => h
        case hy7 => exact Or.inr ⟨by rfl, rfl⟩
        simp only [Act.put, List.setIfInBounds_toArray, List.set_cons_zero, List.set_cons_succ]
        refine wpAnyH_take (i := 7) (oi := ?oi8) (v := undef) ?hi8 (by kernel_rfl) (by kernel_rfl) (by kernel_rfl) ?hQ8 ?hy8 (by assumption) ?rest8
        case hi8 => (simp only [List.getElem?_toArray, List.getElem?_cons_zero, List.getElem?_cons_succ]; rfl)
        case hQ8 => exact fun _ _ _ h => h
        case hy8 => exact Or.inr ⟨by rfl, rfl⟩
        simp only [Act.put, List.setIfInBounds_toArray, List.set_cons_zero, List.set_cons_succ]
        refine wpAnyH_take (i := 8) (oi := ?oi9) (v := undef) ?hi9 (by kernel_rfl) (by kernel_rfl) (by kernel_rfl) ?hQ9 ?hy9 (by assumption) ?rest9
        case hi9 => (simp only [List.getElem?_toArray, List.getElem?_cons_zero, List.getElem?_cons_succ]; rfl)
        case hQ9 => exact fun _ _ _ h => h
        case hy9 => exact Or.inr ⟨by rfl, rfl⟩
        simp only [Act.put, List.setIfInBounds_toArray, List.set_cons_zero, List.set_cons_succ]
        refine wpAnyH_take (i := 9) (oi := ?oi10) (v := undef) ?hi10 (by kernel_rfl) (by kernel_rfl) (by kernel_rfl) ?hQ10 ?hy10 (by assumption) ?rest10
        case hi10 => (simp only [List.getElem?_toArray, List.getElem?_cons_zero, List.getElem?_cons_succ]; rfl)
        case hQ10 => exact fun _ _ _ h => h
        case hy10 => exact Or.inr ⟨by rfl, rfl⟩
        simp only [Act.put, List.setIfInBounds_toArray, List.set_cons_zero, List.set_cons_succ]
        refine wpAnyH_take (i := 10) (oi := ?oi11) (v := undef) ?hi11 (by kernel_rfl) (by kernel_rfl) (by kernel_rfl) ?hQ11 ?hy11 (by assumption) ?rest11
        case hi11 => (simp only [List.getElem?_toArray, List.getElem?_cons_zero, List.getElem?_cons_succ]; rfl)
        case hQ11 => exact fun _ _ _ h => h
        case hy11 => exact Or.inr ⟨by rfl, rfl⟩
        simp only [Act.put, List.setIfInBounds_toArray, List.set_cons_zero, List.set_cons_succ]
        refine wpAnyH_take (i := 11) (oi := ?oi12) (v := undef) ?hi12 (by kernel_rfl) (by kernel_rfl) (by kernel_rfl) ?hQ12 ?hy12 (by assumption) ?rest12
        case hi12 => (simp only [List.getElem?_toArray, List.getElem?_cons_zero, List.getElem?_cons_succ]; rfl)
        case hQ12 => exact fun _ _ _ h => h
        case hy12 => exact Or.inr ⟨by rfl, rfl⟩
        simp only [Act.put, List.setIfInBounds_toArray, List.set_cons_zero, List.set_cons_succ]
        refine wpAnyH_take (i := 12) (oi := ?oi13) (v := undef) ?hi13 (by kernel_rfl) (by kernel_rfl) (by kernel_rfl) ?hQ13 ?hy13 (by assumption) ?rest13
        case hi13 => (simp only [List.getElem?_toArray, List.getElem?_cons_zero, List.getElem?_cons_succ]; rfl)
        case hQ13 => exact fun _ _ _ h => h
        case hy13 => exact Or.inr ⟨by rfl, rfl⟩
        simp only [Act.put, List.setIfInBounds_toArray, List.set_cons_zero, List.set_cons_succ]
        refine wpAnyH_take (i := 13) (oi := ?oi14) (v := undef) ?hi14 (by kernel_rfl) (by kernel_rfl) (by kernel_rfl) ?hQ14 ?hy14 (by assumption) ?rest14
        case hi14 => (simp only [List.getElem?_toArray, List.getElem?_cons_zero, List.getElem?_cons_succ]; rfl)
        case hQ14 => exact fun _ _ _ h => h
        case hy14 => exact Or.inr ⟨by rfl, rfl⟩
        simp only [Act.put, List.setIfInBounds_toArray, List.set_cons_zero, List.set_cons_succ]
        refine wpAnyH_take (i := 14) (oi := ?oi15) (v := undef) ?hi15 (by kernel_rfl) (by kernel_rfl) (by kernel_rfl) ?hQ15 ?hy15 (by assumption) ?rest15
        case hi15 => (simp only [List.getElem?_toArray, List.getElem?_cons_zero, List.getElem?_cons_succ]; rfl)
        case hQ15 => exact fun _ _ _ h => h
        case hy15 => exact Or.inr ⟨by rfl, rfl⟩
        simp only [Act.put, List.setIfInBounds_toArray, List.set_cons_zero, List.set_cons_succ]
        refine wpAnyH_take (i := 15) (oi := ?oi16) (v := undef) ?hi16 (by kernel_rfl) (by kernel_rfl) (by kernel_rfl) ?hQ16 ?hy16 (by assumption) ?rest16
        case hi16 => (simp only [List.getElem?_toArray, List.getElem?_cons_zero, List.getElem?_cons_succ]; rfl)
        case hQ16 => exact fun _ _ _ h => h
        case hy16 => exact Or.inr ⟨by rfl, rfl⟩
        simp only [Act.put, List.setIfInBounds_toArray, List.set_cons_zero, List.set_cons_succ]
        refine wpAnyH_take (i := 16) (oi := ?oi17) (v := .bool false) ?hi17 (by kernel_rfl) (by kernel_rfl) (by kernel_rfl) ?hQ17 ?hy17 (by assumption) ?rest17
        case hi17 => (simp only [List.getElem?_toArray, List.getElem?_cons_zero, List.getElem?_cons_succ]; rfl)
        case hQ17 => exact fun _ _ _ h => h
        case hy17 => exact Or.inl ⟨by rfl, by (intro w hSw; (try dsimp only at hSw); go_simp )⟩
        simp only [Act.put, List.setIfInBounds_toArray, List.set_cons_zero, List.set_cons_succ]
        refine wpAnyH_take (i := 17) (oi := ?oi18) (v := .bool false) ?hi18 (by kernel_rfl) (by kernel_rfl) (by kernel_rfl) ?hQ18 ?hy18 (by assumption) ?rest18
        case hi18 => (simp only [List.getElem?_toArray, List.getElem?_cons_zero, List.getElem?_cons_succ]; rfl)
        case hQ18 => exact fun _ _ _ h => h
        case hy18 => exact Or.inl ⟨by rfl, by (intro w hSw; (try dsimp only at hSw); go_simp )⟩
        simp only [Act.put, List.setIfInBounds_toArray, List.set_cons_zero, List.set_cons_succ]
        refine wpAnyH_done (by kernel_rfl) ?_ _
        replace HO := hide (HO.out.bl hHeld)
        replace hb := below_bl rfl hb hHeld
        have HCV := hide ((hHeld.cell (p := ⟨b, off + k, none⟩) hbw).trans HCT.out)
        have hcv := HCV.out
        clear hHeld
        have hfr : ∀ q, u5.ownBlock = some q → q < V.heap.size := fun q hq => (HO.out.lt q hq).2
        have HRB : Hid (RowAt (V.alloc (.cells #[Value.int .u8 (k : Int)] 5)) V.heap.size (byV [k % 256]).toArray 5) := hide (by
          have e : k % 256 = k := Nat.mod_eq_of_lt (by omega)
          rw [e]
          exact RowAt.new V _ _ _ rfl)
        have HXL := hide (show ∀ c ∈ [k % 256], c < 256 from fun c hc => by rw [List.mem_singleton.1 hc]; exact Nat.mod_lt _ (by decide))
        have hl5 : (ordL l k).length ≤ 100000 := by rw [ord_len]; omega
        go_wp2_with (((with_reducible refine op_app2u i0 (.agg #[.int .u32 0, .slice none 0 0]) Tryd.underlying24 HI.out HZ.out HS.out HB64.out rfl ⟨tg, [k % 256]⟩ _ 1 ((HO.out.bl (below_one _ _)).bl (below_one _ _)) htgl (ownX_blk (n := 1) (HRB.out.bl (below_one _ _)) HXL.out rfl (by decide) hfr) hl5 ?_ (newc2 _ _ #[.int .u32 (tg : Nat), .slice (some ⟨V.heap.size, 0, none⟩) 1 1] _ 0 _ rfl) (newc2 _ _ #[.int .u32 (tg : Nat), .slice (some ⟨V.heap.size, 0, none⟩) 1 1] _ 1 _ rfl) ?_ ?_ ?_); (have := hb.size; simp; omega); exact rfl; exact rfl; intro W6 v6 hown hgr; replace hb := ((hb.trans ((below_one _ _).mono hb.size)).trans ((below_one _ _).mono (by have := hb.size; simp; omega))).grown hgr (by have := hb.size; simp; omega) (fun k hk => (HO.out.lt k hk).1)))
        go_roundw
        case rel => exact ⟨k + 1, hlt, by go_num, by rw [RIS.out], by rw [ordL, HTG.out]; exact hown, hb⟩
        case measure => simp [intOf]; omega
      | true =>
        by_cases hk0 : k = 0
        · have RIS := hide (show riseB l (k + 1) = true by rw [riseB, hris, decide_eq_true hk0]; rfl)
          have HK0 := hide hk0
          clear htg hk0
          go_wp2
          refine wp_region_held_drew (S := (fun U => Below wr.heap.size wr U)) (by kernel_rfl) ?_ (fun hHeld => ?_)
          · exact (Below.refl _ wr).drew
          generalize wr.drew = V at hHeld ⊢
          refine wpAnyH_take (i := 0) (oi := ?oi19) (v := .bool true) ?hi19 (by kernel_rfl) (by kernel_rfl) (by kernel_rfl) ?hQ19 ?hy19 (by assumption) ?rest19
          case hi19 => (simp only [List.getElem?_toArray, List.getElem?_cons_zero]; rfl)
          case hQ19 => exact fun _ _ _ h => h
          case hy19 => exact Or.inl ⟨by rfl, by (intro w hSw; (try dsimp only at hSw); go_simp )⟩
          simp only [Act.put, List.setIfInBounds_toArray, List.set_cons_zero, List.set_cons_succ]
          refine wpAnyH_take (i := 1) (oi := ?oi20) (v := .bool true) ?hi20 (by kernel_rfl) (by kernel_rfl) (by kernel_rfl) ?hQ20 ?hy20 (by assumption) ?rest20
          case hi20 => (simp only [List.getElem?_toArray, List.getElem?_cons_zero, List.getElem?_cons_succ]; rfl)
          case hQ20 => exact fun _ _ _ h => h
          case hy20 => exact Or.inl ⟨by rfl, by (intro w hSw; (try dsimp only at hSw); go_simp )⟩
          simp only [Act.put, List.setIfInBounds_toArray, List.set_cons_zero, List.set_cons_succ]
          refine wpAnyH_take (i := 2) (oi := ?oi21) (v := .int .i64 (k : Nat)) ?hi21 (by kernel_rfl) (by kernel_rfl) (by kernel_rfl) ?hQ21 ?hy21 (by assumption) ?rest21
          case hi21 => (simp only [List.getElem?_toArray, List.getElem?_cons_zero, List.getElem?_cons_succ]; rfl)
          case hQ21 => exact fun _ _ _ h => h
          case hy21 => exact Or.inl ⟨by rfl, by (intro w hSw; (try dsimp only at hSw); go_simp )⟩
          simp only [Act.put, List.setIfInBounds_toArray, List.set_cons_zero, List.set_cons_succ]
          refine wpAnyH_take (i := 3) (oi := ?oi22) (v := .bool true) ?hi22 (by kernel_rfl) (by kernel_rfl) (by kernel_rfl) ?hQ22 ?hy22 (by assumption) ?rest22
          case hi22 => (simp only [List.getElem?_toArray, List.getElem?_cons_zero, List.getElem?_cons_succ]; rfl)
          case hQ22 => exact fun _ _ _ h => h
          case hy22 => exact Or.inl ⟨by rfl, by (intro w hSw; go_simp; exact HK0.out)⟩
          simp only [Act.put, List.setIfInBounds_toArray, List.set_cons_zero, List.set_cons_succ]
          refine wpAnyH_take (i := 4) (oi := ?oi23) (v := .bool true) ?hi23 (by kernel_rfl) (by kernel_rfl) (by kernel_rfl) ?hQ23 ?hy23 (by assumption) ?rest23
          case hi23 => (simp only [List.getElem?_toArray, List.getElem?_cons_zero, List.getElem?_cons_succ]; rfl)
          case hQ23 => exact fun _ _ _ h => h
          case hy23 => exact Or.inl ⟨by rfl, by (intro w hSw; (try dsimp only at hSw); go_simp )⟩
          simp only [Act.put, List.setIfInBounds_toArray, List.set_cons_zero, List.set_cons_succ]
          refine wpAnyH_take (i := 5) (oi := ?oi24) (v := undef) ?hi24 (by kernel_rfl) (by kernel_rfl) (by kernel_rfl) ?hQ24 ?hy24 (by assumption) ?rest24
          case hi24 => (simp only [List.getElem?_toArray, List.getElem?_cons_zero, List.getElem?_cons_succ]; rfl)
          case hQ24 => exact fun _ _ _ h => h
          case hy24 => exact Or.inr ⟨by rfl, rfl⟩
          simp only [Act.put, List.setIfInBounds_toArray, List.set_cons_zero, List.set_cons_succ]
          refine wpAnyH_take (i := 6) (oi := ?oi25) (v := undef) ?hi25 (by kernel_rfl) (by kernel_rfl) (by kernel_rfl) ?hQ25 ?hy25 (by assumption) ?rest25
          case hi25 => (simp only [List.getElem?_toArray, List.getElem?_cons_zero, List.getElem?_cons_succ]; rfl)
          case hQ25 => exact fun _ _ _ h => h
          case hy25 => exact Or.inr ⟨by rfl, rfl⟩
          simp only [Act.put, List.setIfInBounds_toArray, List.set_cons_zero, List.set_cons_succ]
          refine wpAnyH_take (i := 7) (oi := ?oi26) (v := undef) ?hi26 (by kernel_rfl) (by kernel_rfl) (by kernel_rfl) ?hQ26 ?hy26 (by assumption) ?rest26
          case hi26 => (simp only [List.getElem?_toArray, List.getElem?_cons_zero, List.getElem?_cons_succ]; rfl)
          case hQ26 => exact fun _ _ _ h => h
          case hy26 => exact Or.inr ⟨by rfl, rfl⟩
          simp only [Act.put, List.setIfInBounds_toArray, List.set_cons_zero, List.set_cons_succ]
          refine wpAnyH_take (i := 8) (oi := ?oi27) (v := undef) ?hi27 (by kernel_rfl) (by kernel_rfl) (by kernel_rfl) ?hQ27 ?hy27 (by assumption) ?rest27
          case hi27 => (simp only [List.getElem?_toArray, List.getElem?_cons_zero, List.getElem?_cons_succ]; rfl)
          case hQ27 => exact fun _ _ _ h => h
          case hy27 => exact Or.inr ⟨by rfl, rfl⟩
          simp only [Act.put, List.setIfInBounds_toArray, List.set_cons_zero, List.set_cons_succ]
          refine wpAnyH_take (i := 9) (oi := ?oi28) (v := undef) ?hi28 (by kernel_rfl) (by kernel_rfl) (by kernel_rfl) ?hQ28 ?hy28 (by assumption) ?rest28
          case hi28 => (simp only [List.getElem?_toArray, List.getElem?_cons_zero, List.getElem?_cons_succ]; rfl)
          case hQ28 => exact fun _ _ _ h => h
          case hy28 => exact Or.inr ⟨by rfl, rfl⟩
          simp only [Act.put, List.setIfInBounds_toArray, List.set_cons_zero, List.set_cons_succ]
          refine wpAnyH_take (i := 10) (oi := ?oi29) (v := undef) ?hi29 (by kernel_rfl) (by kernel_rfl) (by kernel_rfl) ?hQ29 ?hy29 (by assumption) ?rest29
          case hi29 => (simp only [List.getElem?_toArray, List.getElem?_cons_zero, List.getElem?_cons_succ]; rfl)
          case hQ29 => exact fun _ _ _ h => h
          case hy29 => exact Or.inr ⟨by rfl, rfl⟩
          simp only [Act.put, List.setIfInBounds_toArray, List.set_cons_zero, List.set_cons_succ]
          refine wpAnyH_take (i := 11) (oi := ?oi30) (v := undef) ?hi30 (by kernel_rfl) (by kernel_rfl) (by kernel_rfl) ?hQ30 ?hy30 (by assumption) ?rest30
          case hi30 => (simp only [List.getElem?_toArray, List.getElem?_cons_zero, List.getElem?_cons_succ]; rfl)
          case hQ30 => exact fun _ _ _ h => h
          case hy30 => exact Or.inr ⟨by rfl, rfl⟩
          simp only [Act.put, List.setIfInBounds_toArray, List.set_cons_zero, List.set_cons_succ]
          refine wpAnyH_take (i := 12) (oi := ?oi31) (v := undef) ?hi31 (by kernel_rfl) (by kernel_rfl) (by kernel_rfl) ?hQ31 ?hy31 (by assumption) ?rest31
          case hi31 => (simp only [List.getElem?_toArray, List.getElem?_cons_zero, List.getElem?_cons_succ]; rfl)
          case hQ31 => exact fun _ _ _ h => h
          case hy31 => exact Or.inr ⟨by rfl, rfl⟩
          simp only [Act.put, List.setIfInBounds_toArray, List.set_cons_zero, List.set_cons_succ]
          refine wpAnyH_take (i := 13) (oi := ?oi32) (v := undef) ?hi32 (by kernel_rfl) (by kernel_rfl) (by kernel_rfl) ?hQ32 ?hy32 (by assumption) ?rest32
          case hi32 => (simp only [List.getElem?_toArray, List.getElem?_cons_zero, List.getElem?_cons_succ]; rfl)
          case hQ32 => exact fun _ _ _ h => h
          case hy32 => exact Or.inr ⟨by rfl, rfl⟩
          simp only [Act.put, List.setIfInBounds_toArray, List.set_cons_zero, List.set_cons_succ]
          refine wpAnyH_take (i := 14) (oi := ?oi33) (v := undef) ?hi33 (by kernel_rfl) (by kernel_rfl) (by kernel_rfl) ?hQ33 ?hy33 (by assumption) ?rest33
          case hi33 => (simp only [List.getElem?_toArray, List.getElem?_cons_zero, List.getElem?_cons_succ]; rfl)
          case hQ33 => exact fun _ _ _ h => h
          case hy33 => exact Or.inr ⟨by rfl, rfl⟩
          simp only [Act.put, List.setIfInBounds_toArray, List.set_cons_zero, List.set_cons_succ]
          refine wpAnyH_take (i := 15) (oi := ?oi34) (v := .bool true) ?hi34 (by kernel_rfl) (by kernel_rfl) (by kernel_rfl) ?hQ34 ?hy34 (by assumption) ?rest34
          case hi34 => (simp only [List.getElem?_toArray, List.getElem?_cons_zero, List.getElem?_cons_succ]; rfl)
          case hQ34 => exact fun _ _ _ h => h
          case hy34 => exact Or.inl ⟨by rfl, by (intro w hSw; (try dsimp only at hSw); go_simp )⟩
          simp only [Act.put, List.setIfInBounds_toArray, List.set_cons_zero, List.set_cons_succ]
          refine wpAnyH_take (i := 16) (oi := ?oi35) (v := .bool true) ?hi35 (by kernel_rfl) (by kernel_rfl) (by kernel_rfl) ?hQ35 ?hy35 (by assumption) ?rest35
          case hi35 => (simp only [List.getElem?_toArray, List.getElem?_cons_zero, List.getElem?_cons_succ]; rfl)
          case hQ35 => exact fun _ _ _ h => h
          case hy35 => exact Or.inl ⟨by rfl, by (intro w hSw; (try dsimp only at hSw); go_simp )⟩
          simp only [Act.put, List.setIfInBounds_toArray, List.set_cons_zero, List.set_cons_succ]
          refine wpAnyH_take (i := 17) (oi := ?oi36) (v := .bool true) ?hi36 (by kernel_rfl) (by kernel_rfl) (by kernel_rfl) ?hQ36 ?hy36 (by assumption) ?rest36
          case hi36 => (simp only [List.getElem?_toArray, List.getElem?_cons_zero, List.getElem?_cons_succ]; rfl)
          case hQ36 => exact fun _ _ _ h => h
          case hy36 => exact Or.inl ⟨by rfl, by (intro w hSw; (try dsimp only at hSw); go_simp )⟩
          simp only [Act.put, List.setIfInBounds_toArray, List.set_cons_zero, List.set_cons_succ]
          refine wpAnyH_done (by kernel_rfl) ?_ _
          replace HO := hide (HO.out.bl hHeld)
          replace hb := below_bl rfl hb hHeld
          have HCV := hide ((hHeld.cell (p := ⟨b, off + k, none⟩) hbw).trans HCT.out)
          have hcv := HCV.out
          clear hHeld
          have hfr : ∀ q, u5.ownBlock = some q → q < V.heap.size := fun q hq => (HO.out.lt q hq).2
          have HRB : Hid (RowAt (V.alloc (.cells #[Value.int .u8 (k : Int)] 5)) V.heap.size (byV [k % 256]).toArray 5) := hide (by
            have e : k % 256 = k := Nat.mod_eq_of_lt (by omega)
            rw [e]
            exact RowAt.new V _ _ _ rfl)
          have HXL := hide (show ∀ c ∈ [k % 256], c < 256 from fun c hc => by rw [List.mem_singleton.1 hc]; exact Nat.mod_lt _ (by decide))
          have hl5 : (ordL l k).length ≤ 100000 := by rw [ord_len]; omega
          go_wp2_with (((with_reducible refine op_app2u i0 (.agg #[.int .u32 0, .slice none 0 0]) Tryd.underlying24 HI.out HZ.out HS.out HB64.out rfl ⟨tg, [k % 256]⟩ _ 1 ((HO.out.bl (below_one _ _)).bl (below_one _ _)) htgl (ownX_blk (n := 1) (HRB.out.bl (below_one _ _)) HXL.out rfl (by decide) hfr) hl5 ?_ (newc2 _ _ #[.int .u32 (tg : Nat), .slice (some ⟨V.heap.size, 0, none⟩) 1 1] _ 0 _ rfl) (newc2 _ _ #[.int .u32 (tg : Nat), .slice (some ⟨V.heap.size, 0, none⟩) 1 1] _ 1 _ rfl) ?_ ?_ ?_); (have := hb.size; simp; omega); exact rfl; exact rfl; intro W6 v6 hown hgr; replace hb := ((hb.trans ((below_one _ _).mono hb.size)).trans ((below_one _ _).mono (by have := hb.size; simp; omega))).grown hgr (by have := hb.size; simp; omega) (fun k hk => (HO.out.lt k hk).1)))
          go_roundw
          case rel => exact ⟨k + 1, hlt, by go_num, by rw [RIS.out], by rw [ordL, HTG.out]; exact hown, hb⟩
          case measure => simp [intOf]; omega
        · obtain ⟨j, hj⟩ : ∃ j, k = j + 1 := ⟨k - 1, by omega⟩
          have HC0 := hide ((hb.cell (p := ⟨b, off + j, none⟩) hbB).trans (HC.out j (by have := HLEN.out; omega)))
          obtain ⟨t0, ht0⟩ : ∃ q, l.getD j 0 = q := ⟨_, rfl⟩
          have hb0 := HTLT.out j
          have HJ := hide hj
          have HK0 := hide hk0
          have hjl : j < len := by omega
          rw [ht0] at HC0 hb0
          by_cases hup : t0 < tg
          · have RIS := hide (show riseB l (k + 1) = true by rw [riseB, hris, show k - 1 = j by omega, htg, ht0, decide_eq_true hup, Bool.or_true]; rfl)
            clear htg ht0 hj hk0
            go_wp2
            refine wp_region_held_drew (S := (fun U => Below wr.heap.size wr U)) (by kernel_rfl) ?_ (fun hHeld => ?_)
            · exact (Below.refl _ wr).drew
            generalize wr.drew = V at hHeld ⊢
            refine wpAnyH_take (i := 0) (oi := ?oi37) (v := .bool true) ?hi37 (by kernel_rfl) (by kernel_rfl) (by kernel_rfl) ?hQ37 ?hy37 (by assumption) ?rest37
            case hi37 => (simp only [List.getElem?_toArray, List.getElem?_cons_zero]; rfl)
            case hQ37 => exact fun _ _ _ h => h
            case hy37 => exact Or.inl ⟨by rfl, by (intro w hSw; (try dsimp only at hSw); go_simp )⟩
            simp only [Act.put, List.setIfInBounds_toArray, List.set_cons_zero, List.set_cons_succ]
            refine wpAnyH_take (i := 1) (oi := ?oi38) (v := .bool true) ?hi38 (by kernel_rfl) (by kernel_rfl) (by kernel_rfl) ?hQ38 ?hy38 (by assumption) ?rest38
            case hi38 => (simp only [List.getElem?_toArray, List.getElem?_cons_zero, List.getElem?_cons_succ]; rfl)
            case hQ38 => exact fun _ _ _ h => h
            case hy38 => exact Or.inl ⟨by rfl, by (intro w hSw; (try dsimp only at hSw); go_simp )⟩
            simp only [Act.put, List.setIfInBounds_toArray, List.set_cons_zero, List.set_cons_succ]
            refine wpAnyH_take (i := 2) (oi := ?oi39) (v := .int .i64 (k : Nat)) ?hi39 (by kernel_rfl) (by kernel_rfl) (by kernel_rfl) ?hQ39 ?hy39 (by assumption) ?rest39
            case hi39 => (simp only [List.getElem?_toArray, List.getElem?_cons_zero, List.getElem?_cons_succ]; rfl)
            case hQ39 => exact fun _ _ _ h => h
            case hy39 => exact Or.inl ⟨by rfl, by (intro w hSw; (try dsimp only at hSw); go_simp )⟩
            simp only [Act.put, List.setIfInBounds_toArray, List.set_cons_zero, List.set_cons_succ]
            refine wpAnyH_take (i := 3) (oi := ?oi40) (v := .bool false) ?hi40 (by kernel_rfl) (by kernel_rfl) (by kernel_rfl) ?hQ40 ?hy40 (by assumption) ?rest40
            case hi40 => (simp only [List.getElem?_toArray, List.getElem?_cons_zero, List.getElem?_cons_succ]; rfl)
            case hQ40 => exact fun _ _ _ h => h
            case hy40 => exact Or.inl ⟨by rfl, by (intro w hSw; go_simp; exact HK0.out)⟩
            simp only [Act.put, List.setIfInBounds_toArray, List.set_cons_zero, List.set_cons_succ]
            refine wpAnyH_take (i := 4) (oi := ?oi41) (v := .bool false) ?hi41 (by kernel_rfl) (by kernel_rfl) (by kernel_rfl) ?hQ41 ?hy41 (by assumption) ?rest41
            case hi41 => (simp only [List.getElem?_toArray, List.getElem?_cons_zero, List.getElem?_cons_succ]; rfl)
            case hQ41 => exact fun _ _ _ h => h
            case hy41 => exact Or.inl ⟨by rfl, by (intro w hSw; (try dsimp only at hSw); go_simp )⟩
            simp only [Act.put, List.setIfInBounds_toArray, List.set_cons_zero, List.set_cons_succ]
            refine wpAnyH_take (i := 5) (oi := ?oi42) (v := .slice (some ⟨b, off, none⟩) len cap) ?hi42 (by kernel_rfl) (by kernel_rfl) (by kernel_rfl) ?hQ42 ?hy42 (by assumption) ?rest42
            case hi42 => (simp only [List.getElem?_toArray, List.getElem?_cons_zero, List.getElem?_cons_succ]; rfl)
            case hQ42 => exact fun _ _ _ h => h
            case hy42 => exact Or.inl ⟨by rfl, by (intro w hSw; (try dsimp only at hSw); go_simp )⟩
            simp only [Act.put, List.setIfInBounds_toArray, List.set_cons_zero, List.set_cons_succ]
            refine wpAnyH_take (i := 6) (oi := ?oi43) (v := .int .i64 (k : Nat)) ?hi43 (by kernel_rfl) (by kernel_rfl) (by kernel_rfl) ?hQ43 ?hy43 (by assumption) ?rest43
            case hi43 => (simp only [List.getElem?_toArray, List.getElem?_cons_zero, List.getElem?_cons_succ]; rfl)
            case hQ43 => exact fun _ _ _ h => h
            case hy43 => exact Or.inl ⟨by rfl, by (intro w hSw; (try dsimp only at hSw); go_simp )⟩
            simp only [Act.put, List.setIfInBounds_toArray, List.set_cons_zero, List.set_cons_succ]
            refine wpAnyH_take (i := 7) (oi := ?oi44) (v := .pointer (some ⟨b, off + k, none⟩)) ?hi44 (by kernel_rfl) (by kernel_rfl) (by kernel_rfl) ?hQ44 ?hy44 (by assumption) ?rest44
            case hi44 => (simp only [List.getElem?_toArray, List.getElem?_cons_zero, List.getElem?_cons_succ]; rfl)
            case hQ44 => exact fun _ _ _ h => h
            case hy44 => exact Or.inl ⟨by rfl, fun U hU => ex_idxU b off len cap k (by omega) rfl rfl U⟩
            simp only [Act.put, List.setIfInBounds_toArray, List.set_cons_zero, List.set_cons_succ]
            refine wpAnyH_take (i := 8) (oi := ?oi45) (v := .int .u32 (tg : Nat)) ?hi45 (by kernel_rfl) (by kernel_rfl) (by kernel_rfl) ?hQ45 ?hy45 (by assumption) ?rest45
            case hi45 => (simp only [List.getElem?_toArray, List.getElem?_cons_zero, List.getElem?_cons_succ]; rfl)
            case hQ45 => exact fun _ _ _ h => h
            case hy45 => exact y_any b (off + k) _ (fun U hU => (hU.cell (p := ⟨b, off + k, none⟩) hbw).trans HCT.out) _ Tryd.underlying23 rfl rfl rfl
            simp only [Act.put, List.setIfInBounds_toArray, List.set_cons_zero, List.set_cons_succ]
            refine wpAnyH_take (i := 9) (oi := ?oi46) (v := .slice (some ⟨b, off, none⟩) len cap) ?hi46 (by kernel_rfl) (by kernel_rfl) (by kernel_rfl) ?hQ46 ?hy46 (by assumption) ?rest46
            case hi46 => (simp only [List.getElem?_toArray, List.getElem?_cons_zero, List.getElem?_cons_succ]; rfl)
            case hQ46 => exact fun _ _ _ h => h
            case hy46 => exact Or.inl ⟨by rfl, by (intro w hSw; (try dsimp only at hSw); go_simp )⟩
            simp only [Act.put, List.setIfInBounds_toArray, List.set_cons_zero, List.set_cons_succ]
            refine wpAnyH_take (i := 10) (oi := ?oi47) (v := .int .i64 (k : Nat)) ?hi47 (by kernel_rfl) (by kernel_rfl) (by kernel_rfl) ?hQ47 ?hy47 (by assumption) ?rest47
            case hi47 => (simp only [List.getElem?_toArray, List.getElem?_cons_zero, List.getElem?_cons_succ]; rfl)
            case hQ47 => exact fun _ _ _ h => h
            case hy47 => exact Or.inl ⟨by rfl, by (intro w hSw; (try dsimp only at hSw); go_simp )⟩
            simp only [Act.put, List.setIfInBounds_toArray, List.set_cons_zero, List.set_cons_succ]
            refine wpAnyH_take (i := 11) (oi := ?oi48) (v := .int .i64 (j : Nat)) ?hi48 (by kernel_rfl) (by kernel_rfl) (by kernel_rfl) ?hQ48 ?hy48 (by assumption) ?rest48
            case hi48 => (simp only [List.getElem?_toArray, List.getElem?_cons_zero, List.getElem?_cons_succ]; rfl)
            case hQ48 => exact fun _ _ _ h => h
            case hy48 => exact Or.inl ⟨by rfl, by (intro w hSw; go_simp; (try rw [IntKind.wrap_i64]); have := HJ.out; omega)⟩
            simp only [Act.put, List.setIfInBounds_toArray, List.set_cons_zero, List.set_cons_succ]
            refine wpAnyH_take (i := 12) (oi := ?oi49) (v := .pointer (some ⟨b, off + j, none⟩)) ?hi49 (by kernel_rfl) (by kernel_rfl) (by kernel_rfl) ?hQ49 ?hy49 (by assumption) ?rest49
            case hi49 => (simp only [List.getElem?_toArray, List.getElem?_cons_zero, List.getElem?_cons_succ]; rfl)
            case hQ49 => exact fun _ _ _ h => h
            case hy49 => exact Or.inl ⟨by rfl, fun U hU => ex_idxU b off len cap j (by omega) rfl rfl U⟩
            simp only [Act.put, List.setIfInBounds_toArray, List.set_cons_zero, List.set_cons_succ]
            refine wpAnyH_take (i := 13) (oi := ?oi50) (v := .int .u32 (t0 : Nat)) ?hi50 (by kernel_rfl) (by kernel_rfl) (by kernel_rfl) ?hQ50 ?hy50 (by assumption) ?rest50
            case hi50 => (simp only [List.getElem?_toArray, List.getElem?_cons_zero, List.getElem?_cons_succ]; rfl)
            case hQ50 => exact fun _ _ _ h => h
            case hy50 => exact y_any b (off + j) _ (fun U hU => (hU.cell (p := ⟨b, off + j, none⟩) hbw).trans HC0.out) _ Tryd.underlying23 rfl rfl rfl
            simp only [Act.put, List.setIfInBounds_toArray, List.set_cons_zero, List.set_cons_succ]
            refine wpAnyH_take (i := 14) (oi := ?oi51) (v := .bool true) ?hi51 (by kernel_rfl) (by kernel_rfl) (by kernel_rfl) ?hQ51 ?hy51 (by assumption) ?rest51
            case hi51 => (simp only [List.getElem?_toArray, List.getElem?_cons_zero, List.getElem?_cons_succ]; rfl)
            case hQ51 => exact fun _ _ _ h => h
            case hy51 => exact Or.inl ⟨by rfl, by (intro w hSw; go_simp; try omega)⟩
            simp only [Act.put, List.setIfInBounds_toArray, List.set_cons_zero, List.set_cons_succ]
            refine wpAnyH_take (i := 15) (oi := ?oi52) (v := .bool true) ?hi52 (by kernel_rfl) (by kernel_rfl) (by kernel_rfl) ?hQ52 ?hy52 (by assumption) ?rest52
            case hi52 => (simp only [List.getElem?_toArray, List.getElem?_cons_zero, List.getElem?_cons_succ]; rfl)
            case hQ52 => exact fun _ _ _ h => h
            case hy52 => exact Or.inl ⟨by rfl, by (intro w hSw; (try dsimp only at hSw); go_simp )⟩
            simp only [Act.put, List.setIfInBounds_toArray, List.set_cons_zero, List.set_cons_succ]
            refine wpAnyH_take (i := 16) (oi := ?oi53) (v := .bool true) ?hi53 (by kernel_rfl) (by kernel_rfl) (by kernel_rfl) ?hQ53 ?hy53 (by assumption) ?rest53
            case hi53 => (simp only [List.getElem?_toArray, List.getElem?_cons_zero, List.getElem?_cons_succ]; rfl)
            case hQ53 => exact fun _ _ _ h => h
            case hy53 => exact Or.inl ⟨by rfl, by (intro w hSw; (try dsimp only at hSw); go_simp )⟩
            simp only [Act.put, List.setIfInBounds_toArray, List.set_cons_zero, List.set_cons_succ]
            refine wpAnyH_take (i := 17) (oi := ?oi54) (v := .bool true) ?hi54 (by kernel_rfl) (by kernel_rfl) (by kernel_rfl) ?hQ54 ?hy54 (by assumption) ?rest54
            case hi54 => (simp only [List.getElem?_toArray, List.getElem?_cons_zero, List.getElem?_cons_succ]; rfl)
            case hQ54 => exact fun _ _ _ h => h
            case hy54 => exact Or.inl ⟨by rfl, by (intro w hSw; (try dsimp only at hSw); go_simp )⟩
            simp only [Act.put, List.setIfInBounds_toArray, List.set_cons_zero, List.set_cons_succ]
            refine wpAnyH_done (by kernel_rfl) ?_ _
            replace HO := hide (HO.out.bl hHeld)
            replace hb := below_bl rfl hb hHeld
            have HCV := hide ((hHeld.cell (p := ⟨b, off + k, none⟩) hbw).trans HCT.out)
            have hcv := HCV.out
            clear hHeld
            have hfr : ∀ q, u5.ownBlock = some q → q < V.heap.size := fun q hq => (HO.out.lt q hq).2
            have HRB : Hid (RowAt (V.alloc (.cells #[Value.int .u8 (k : Int)] 5)) V.heap.size (byV [k % 256]).toArray 5) := hide (by
              have e : k % 256 = k := Nat.mod_eq_of_lt (by omega)
              rw [e]
              exact RowAt.new V _ _ _ rfl)
            have HXL := hide (show ∀ c ∈ [k % 256], c < 256 from fun c hc => by rw [List.mem_singleton.1 hc]; exact Nat.mod_lt _ (by decide))
            have hl5 : (ordL l k).length ≤ 100000 := by rw [ord_len]; omega
            go_wp2_with (((with_reducible refine op_app2u i0 (.agg #[.int .u32 0, .slice none 0 0]) Tryd.underlying24 HI.out HZ.out HS.out HB64.out rfl ⟨tg, [k % 256]⟩ _ 1 ((HO.out.bl (below_one _ _)).bl (below_one _ _)) htgl (ownX_blk (n := 1) (HRB.out.bl (below_one _ _)) HXL.out rfl (by decide) hfr) hl5 ?_ (newc2 _ _ #[.int .u32 (tg : Nat), .slice (some ⟨V.heap.size, 0, none⟩) 1 1] _ 0 _ rfl) (newc2 _ _ #[.int .u32 (tg : Nat), .slice (some ⟨V.heap.size, 0, none⟩) 1 1] _ 1 _ rfl) ?_ ?_ ?_); (have := hb.size; simp; omega); exact rfl; exact rfl; intro W6 v6 hown hgr; replace hb := ((hb.trans ((below_one _ _).mono hb.size)).trans ((below_one _ _).mono (by have := hb.size; simp; omega))).grown hgr (by have := hb.size; simp; omega) (fun k hk => (HO.out.lt k hk).1)))
            go_roundw
            case rel => exact ⟨k + 1, hlt, by go_num, by rw [RIS.out], by rw [ordL, HTG.out]; exact hown, hb⟩
            case measure => simp [intOf]; omega
          · have RIS := hide (show riseB l (k + 1) = false by rw [riseB, hris, show k - 1 = j by omega, htg, ht0, decide_eq_false hup, decide_eq_false hk0]; rfl)
            clear htg ht0 hj hk0
            go_wp2
            refine wp_region_held_drew (S := (fun U => Below wr.heap.size wr U)) (by kernel_rfl) ?_ (fun hHeld => ?_)
            · exact (Below.refl _ wr).drew
            generalize wr.drew = V at hHeld ⊢
            refine wpAnyH_take (i := 0) (oi := ?oi55) (v := .bool true) ?hi55 (by kernel_rfl) (by kernel_rfl) (by kernel_rfl) ?hQ55 ?hy55 (by assumption) ?rest55
            case hi55 => (simp only [List.getElem?_toArray, List.getElem?_cons_zero]; rfl)
            case hQ55 => exact fun _ _ _ h => h
            case hy55 => exact Or.inl ⟨by rfl, by (intro w hSw; (try dsimp only at hSw); go_simp )⟩
            simp only [Act.put, List.setIfInBounds_toArray, List.set_cons_zero, List.set_cons_succ]
            refine wpAnyH_take (i := 1) (oi := ?oi56) (v := .bool true) ?hi56 (by kernel_rfl) (by kernel_rfl) (by kernel_rfl) ?hQ56 ?hy56 (by assumption) ?rest56
            case hi56 => (simp only [List.getElem?_toArray, List.getElem?_cons_zero, List.getElem?_cons_succ]; rfl)
            case hQ56 => exact fun _ _ _ h => h
            case hy56 => exact Or.inl ⟨by rfl, by (intro w hSw; (try dsimp only at hSw); go_simp )⟩
            simp only [Act.put, List.setIfInBounds_toArray, List.set_cons_zero, List.set_cons_succ]
            refine wpAnyH_take (i := 2) (oi := ?oi57) (v := .int .i64 (k : Nat)) ?hi57 (by kernel_rfl) (by kernel_rfl) (by kernel_rfl) ?hQ57 ?hy57 (by assumption) ?rest57
            case hi57 => (simp only [List.getElem?_toArray, List.getElem?_cons_zero, List.getElem?_cons_succ]; rfl)
            case hQ57 => exact fun _ _ _ h => h
            case hy57 => exact Or.inl ⟨by rfl, by (intro w hSw; (try dsimp only at hSw); go_simp )⟩
            simp only [Act.put, List.setIfInBounds_toArray, List.set_cons_zero, List.set_cons_succ]
            refine wpAnyH_take (i := 3) (oi := ?oi58) (v := .bool false) ?hi58 (by kernel_rfl) (by kernel_rfl) (by kernel_rfl) ?hQ58 ?hy58 (by assumption) ?rest58
            case hi58 => (simp only [List.getElem?_toArray, List.getElem?_cons_zero, List.getElem?_cons_succ]; rfl)
            case hQ58 => exact fun _ _ _ h => h
            case hy58 => exact Or.inl ⟨by rfl, by (intro w hSw; go_simp; exact HK0.out)⟩
            simp only [Act.put, List.setIfInBounds_toArray, List.set_cons_zero, List.set_cons_succ]
            refine wpAnyH_take (i := 4) (oi := ?oi59) (v := .bool false) ?hi59 (by kernel_rfl) (by kernel_rfl) (by kernel_rfl) ?hQ59 ?hy59 (by assumption) ?rest59
            case hi59 => (simp only [List.getElem?_toArray, List.getElem?_cons_zero, List.getElem?_cons_succ]; rfl)
            case hQ59 => exact fun _ _ _ h => h
            case hy59 => exact Or.inl ⟨by rfl, by (intro w hSw; (try dsimp only at hSw); go_simp )⟩
            simp only [Act.put, List.setIfInBounds_toArray, List.set_cons_zero, List.set_cons_succ]
            refine wpAnyH_take (i := 5) (oi := ?oi60) (v := .slice (some ⟨b, off, none⟩) len cap) ?hi60 (by kernel_rfl) (by kernel_rfl) (by kernel_rfl) ?hQ60 ?hy60 (by assumption) ?rest60
            case hi60 => (simp only [List.getElem?_toArray, List.getElem?_cons_zero, List.getElem?_cons_succ]; rfl)
            case hQ60 => exact fun _ _ _ h => h
            case hy60 => exact Or.inl ⟨by rfl, by (intro w hSw; (try dsimp only at hSw); go_simp )⟩
            simp only [Act.put, List.setIfInBounds_toArray, List.set_cons_zero, List.set_cons_succ]
            refine wpAnyH_take (i := 6) (oi := ?oi61) (v := .int .i64 (k : Nat)) ?hi61 (by kernel_rfl) (by kernel_rfl) (by kernel_rfl) ?hQ61 ?hy61 (by assumption) ?rest61
            case hi61 => (simp only [List.getElem?_toArray, List.getElem?_cons_zero, List.getElem?_cons_succ]; rfl)
            case hQ61 => exact fun _ _ _ h => h
            case hy61 => exact Or.inl ⟨by rfl, by (intro w hSw; (try dsimp only at hSw); go_simp )⟩
            simp only [Act.put, List.setIfInBounds_toArray, List.set_cons_zero, List.set_cons_succ]
            refine wpAnyH_take (i := 7) (oi := ?oi62) (v := .pointer (some ⟨b, off + k, none⟩)) ?hi62 (by kernel_rfl) (by kernel_rfl) (by kernel_rfl) ?hQ62 ?hy62 (by assumption) ?rest62
            case hi62 => (simp only [List.getElem?_toArray, List.getElem?_cons_zero, List.getElem?_cons_succ]; rfl)
            case hQ62 => exact fun _ _ _ h => h
            case hy62 => exact Or.inl ⟨by rfl, fun U hU => ex_idxU b off len cap k (by omega) rfl rfl U⟩
            simp only [Act.put, List.setIfInBounds_toArray, List.set_cons_zero, List.set_cons_succ]
            refine wpAnyH_take (i := 8) (oi := ?oi63) (v := .int .u32 (tg : Nat)) ?hi63 (by kernel_rfl) (by kernel_rfl) (by kernel_rfl) ?hQ63 ?hy63 (by assumption) ?rest63
            case hi63 => (simp only [List.getElem?_toArray, List.getElem?_cons_zero, List.getElem?_cons_succ]; rfl)
            case hQ63 => exact fun _ _ _ h => h
            case hy63 => exact y_any b (off + k) _ (fun U hU => (hU.cell (p := ⟨b, off + k, none⟩) hbw).trans HCT.out) _ Tryd.underlying23 rfl rfl rfl
            simp only [Act.put, List.setIfInBounds_toArray, List.set_cons_zero, List.set_cons_succ]
            refine wpAnyH_take (i := 9) (oi := ?oi64) (v := .slice (some ⟨b, off, none⟩) len cap) ?hi64 (by kernel_rfl) (by kernel_rfl) (by kernel_rfl) ?hQ64 ?hy64 (by assumption) ?rest64
            case hi64 => (simp only [List.getElem?_toArray, List.getElem?_cons_zero, List.getElem?_cons_succ]; rfl)
            case hQ64 => exact fun _ _ _ h => h
            case hy64 => exact Or.inl ⟨by rfl, by (intro w hSw; (try dsimp only at hSw); go_simp )⟩
            simp only [Act.put, List.setIfInBounds_toArray, List.set_cons_zero, List.set_cons_succ]
            refine wpAnyH_take (i := 10) (oi := ?oi65) (v := .int .i64 (k : Nat)) ?hi65 (by kernel_rfl) (by kernel_rfl) (by kernel_rfl) ?hQ65 ?hy65 (by assumption) ?rest65
            case hi65 => (simp only [List.getElem?_toArray, List.getElem?_cons_zero, List.getElem?_cons_succ]; rfl)
            case hQ65 => exact fun _ _ _ h => h
            case hy65 => exact Or.inl ⟨by rfl, by (intro w hSw; (try dsimp only at hSw); go_simp )⟩
            simp only [Act.put, List.setIfInBounds_toArray, List.set_cons_zero, List.set_cons_succ]
            refine wpAnyH_take (i := 11) (oi := ?oi66) (v := .int .i64 (j : Nat)) ?hi66 (by kernel_rfl) (by kernel_rfl) (by kernel_rfl) ?hQ66 ?hy66 (by assumption) ?rest66
            case hi66 => (simp only [List.getElem?_toArray, List.getElem?_cons_zero, List.getElem?_cons_succ]; rfl)
            case hQ66 => exact fun _ _ _ h => h
            case hy66 => exact Or.inl ⟨by rfl, by (intro w hSw; go_simp; (try rw [IntKind.wrap_i64]); have := HJ.out; omega)⟩
            simp only [Act.put, List.setIfInBounds_toArray, List.set_cons_zero, List.set_cons_succ]
            refine wpAnyH_take (i := 12) (oi := ?oi67) (v := .pointer (some ⟨b, off + j, none⟩)) ?hi67 (by kernel_rfl) (by kernel_rfl) (by kernel_rfl) ?hQ67 ?hy67 (by assumption) ?rest67
            case hi67 => (simp only [List.getElem?_toArray, List.getElem?_cons_zero, List.getElem?_cons_succ]; rfl)
            case hQ67 => exact fun _ _ _ h => h
            case hy67 => exact Or.inl ⟨by rfl, fun U hU => ex_idxU b off len cap j (by omega) rfl rfl U⟩
            simp only [Act.put, List.setIfInBounds_toArray, List.set_cons_zero, List.set_cons_succ]
            refine wpAnyH_take (i := 13) (oi := ?oi68) (v := .int .u32 (t0 : Nat)) ?hi68 (by kernel_rfl) (by kernel_rfl) (by kernel_rfl) ?hQ68 ?hy68 (by assumption) ?rest68
            case hi68 => (simp only [List.getElem?_toArray, List.getElem?_cons_zero, List.getElem?_cons_succ]; rfl)
            case hQ68 => exact fun _ _ _ h => h
            case hy68 => exact y_any b (off + j) _ (fun U hU => (hU.cell (p := ⟨b, off + j, none⟩) hbw).trans HC0.out) _ Tryd.underlying23 rfl rfl rfl
            simp only [Act.put, List.setIfInBounds_toArray, List.set_cons_zero, List.set_cons_succ]
            refine wpAnyH_take (i := 14) (oi := ?oi69) (v := .bool false) ?hi69 (by kernel_rfl) (by kernel_rfl) (by kernel_rfl) ?hQ69 ?hy69 (by assumption) ?rest69
            case hi69 => (simp only [List.getElem?_toArray, List.getElem?_cons_zero, List.getElem?_cons_succ]; rfl)
            case hQ69 => exact fun _ _ _ h => h
            case hy69 => exact Or.inl ⟨by rfl, by (intro w hSw; go_simp; try omega)⟩
            simp only [Act.put, List.setIfInBounds_toArray, List.set_cons_zero, List.set_cons_succ]
            refine wpAnyH_take (i := 15) (oi := ?oi70) (v := .bool false) ?hi70 (by kernel_rfl) (by kernel_rfl) (by kernel_rfl) ?hQ70 ?hy70 (by assumption) ?rest70
            case hi70 => (simp only [List.getElem?_toArray, List.getElem?_cons_zero, List.getElem?_cons_succ]; rfl)
            case hQ70 => exact fun _ _ _ h => h
            case hy70 => exact Or.inl ⟨by rfl, by (intro w hSw; (try dsimp only at hSw); go_simp )⟩
            simp only [Act.put, List.setIfInBounds_toArray, List.set_cons_zero, List.set_cons_succ]
            refine wpAnyH_take (i := 16) (oi := ?oi71) (v := .bool false) ?hi71 (by kernel_rfl) (by kernel_rfl) (by kernel_rfl) ?hQ71 ?hy71 (by assumption) ?rest71
            case hi71 => (simp only [List.getElem?_toArray, List.getElem?_cons_zero, List.getElem?_cons_succ]; rfl)
            case hQ71 => exact fun _ _ _ h => h
            case hy71 => exact Or.inl ⟨by rfl, by (intro w hSw; (try dsimp only at hSw); go_simp )⟩
            simp only [Act.put, List.setIfInBounds_toArray, List.set_cons_zero, List.set_cons_succ]
            refine wpAnyH_take (i := 17) (oi := ?oi72) (v := .bool false) ?hi72 (by kernel_rfl) (by kernel_rfl) (by kernel_rfl) ?hQ72 ?hy72 (by assumption) ?rest72
            case hi72 => (simp only [List.getElem?_toArray, List.getElem?_cons_zero, List.getElem?_cons_succ]; rfl)
            case hQ72 => exact fun _ _ _ h => h
            case hy72 => exact Or.inl ⟨by rfl, by (intro w hSw; (try dsimp only at hSw); go_simp )⟩
            simp only [Act.put, List.setIfInBounds_toArray, List.set_cons_zero, List.set_cons_succ]
            refine wpAnyH_done (by kernel_rfl) ?_ _
            replace HO := hide (HO.out.bl hHeld)
            replace hb := below_bl rfl hb hHeld
            have HCV := hide ((hHeld.cell (p := ⟨b, off + k, none⟩) hbw).trans HCT.out)
            have hcv := HCV.out
            clear hHeld
            have hfr : ∀ q, u5.ownBlock = some q → q < V.heap.size := fun q hq => (HO.out.lt q hq).2
            have HRB : Hid (RowAt (V.alloc (.cells #[Value.int .u8 (k : Int)] 5)) V.heap.size (byV [k % 256]).toArray 5) := hide (by
              have e : k % 256 = k := Nat.mod_eq_of_lt (by omega)
              rw [e]
              exact RowAt.new V _ _ _ rfl)
            have HXL := hide (show ∀ c ∈ [k % 256], c < 256 from fun c hc => by rw [List.mem_singleton.1 hc]; exact Nat.mod_lt _ (by decide))
            have hl5 : (ordL l k).length ≤ 100000 := by rw [ord_len]; omega
            go_wp2_with (((with_reducible refine op_app2u i0 (.agg #[.int .u32 0, .slice none 0 0]) Tryd.underlying24 HI.out HZ.out HS.out HB64.out rfl ⟨tg, [k % 256]⟩ _ 1 ((HO.out.bl (below_one _ _)).bl (below_one _ _)) htgl (ownX_blk (n := 1) (HRB.out.bl (below_one _ _)) HXL.out rfl (by decide) hfr) hl5 ?_ (newc2 _ _ #[.int .u32 (tg : Nat), .slice (some ⟨V.heap.size, 0, none⟩) 1 1] _ 0 _ rfl) (newc2 _ _ #[.int .u32 (tg : Nat), .slice (some ⟨V.heap.size, 0, none⟩) 1 1] _ 1 _ rfl) ?_ ?_ ?_); (have := hb.size; simp; omega); exact rfl; exact rfl; intro W6 v6 hown hgr; replace hb := ((hb.trans ((below_one _ _).mono hb.size)).trans ((below_one _ _).mono (by have := hb.size; simp; omega))).grown hgr (by have := hb.size; simp; omega) (fun k hk => (HO.out.lt k hk).1)))
            go_roundw
            case rel => exact ⟨k + 1, hlt, by go_num, by rw [RIS.out], by rw [ordL, HTG.out]; exact hown, hb⟩
            case measure => simp [intOf]; omega
    · obtain rfl : k = n := by omega
      have hkk : ¬ ((k : Int) < (len : Int) ∧ (k : Int) < 50) := by omega
      have HF := hide (fun (W : World) hS hG => con_tab.find W W.heap.size u5 (ordL l k) tag hG hS (Nat.le_refl _) htag (by rw [size_ord]; omega))
      have HE := hide (show Calls Tryd.prog 4 #[.int .u32 3, u5] wr fun e w' => ∃ v', e = .returned (.tuple #[v', errS (encE (ordL l k))]) ∧ Rd w'.heap.size w' v' (encB 3 (ordL l k)) ∧ Below wr.heap.size wr w' from
        con_tab.enc wr wr.heap.size u5 (ordL l k) 3 (HT.out.below hb) HO.out.secs (Nat.le_refl _) (by decide) (by rw [ord_len]; omega) (by rw [size_ord]; omega))
      have HSU := hide (fun W hg => tsure_any con_tab W hg)
      have HN31 := hide (fun W hg => num_err 31 W hg)
      have HN8 := hide (fun W hg => num_err 8 W hg)
      obtain ⟨al, cl, hlvv, _, _⟩ := HO.out.form
      rw [ord_len] at hlvv
      subst hlvv
      rw [enc_ord l k hn50] at HE
      obtain ⟨ev, hev⟩ : ∃ q, errS (findE tag (ordL l k)) = q := ⟨_, rfl⟩
      obtain ⟨qb, hqb⟩ : ∃ q, findB tag (ordL l k) = q := ⟨_, rfl⟩
      rw [hev, hqb] at HF
      have HEV := hide hev
      have HQB := hide hqb
      clear hev hqb
      have hk50 : k < len → 50 ≤ k := by omega
      clear hn
      by_cases hkl : k < len
      all_goals
        cases hris : riseB l k with
        | true =>
          rw [hris, if_pos rfl, show errS 0 = .nilIface from rfl] at HE
          go_wp2_with (first | (go_at_call 4; (with_reducible refine (HE.out).mono ?_); rintro e W2 ⟨vb, rfl, _, hb2⟩; replace HO := hide (HO.out.bl hb2); replace hb := below_bl rfl hb hb2; clear hb2) | (go_at_call 6; (with_reducible refine (HF.out _ HO.out.secs (HT.out.below hb)).mono ?_); rintro e W3 ⟨uf, rfl, hrf, hb3⟩; replace HO := hide (HO.out.bl hb3); replace hb := below_bl rfl hb hb3; clear hb3; obtain ⟨af, cf, rfl, _, _⟩ := hrf.form; have HRF := hide hrf; clear hrf) | (go_at_call 5; (with_reducible refine (HN31.out _ (HH.out.below hb)).mono ?_); rintro e W4 ⟨rfl, hb4⟩; replace HO := hide (HO.out.bl hb4); replace hb := below_bl rfl hb hb4; clear hb4))
          go_loop [12] (Or2Rel l tag k) (fun iv => k - (intOf iv).toNat)
          case atStart => exact ⟨0, Nat.zero_le _, rfl, fun j h => absurd h (by omega)⟩
          case round =>
            obtain ⟨i, hi, rfl, hno⟩ := hrel
            have HNO := hide hno
            clear hno
            by_cases hlt2 : i < k
            · have hil : i < (ordL l k).length := by rw [ord_len]; exact hlt2
              obtain ⟨b2, o2, c2, hv2, _, _, _, HC2⟩ := HO.out.secs.all (by omega)
              rw [ord_len] at hv2
              injection hv2 with hv2 _ hv3
              subst hv2 hv3
              have hc2 := (HC2.out i hil).1
              rw [ord_get] at hc2
              by_cases hti : l.getD i 0 = tag
              · have hfa := find_at tag (ordL l k) i hil (fun j hj hji => by rw [ord_get]; exact HNO.out j hji) (by rw [ord_get]; exact hti)
                rw [ord_get] at hfa
                obtain rfl : ev = .nilIface := by rw [← HEV.out, hfa.1]; rfl
                obtain rfl : qb = [i % 256] := by rw [← HQB.out, hfa.2]
                obtain ⟨b3, o3, c3, hv4, _, _, _, HC3, _⟩ := HRF.out.all (show 0 < [i % 256].length from Nat.zero_lt_one)
                injection hv4 with hv4 _ hv5
                subst hv4 hv5
                have hc3 : _ = some (Value.int .u8 ((i % 256 : Nat) : Int)) := HC3.out 0 (show 0 < [i % 256].length from Nat.zero_lt_one)
                rw [Nat.add_zero] at hc3
                have hl1 : ([i % 256] : List Nat).length = 1 := rfl
                clear hfa
                simp only at hc2
                rw [hti] at hc2
                go_wp2_with ((go_at_call 7; (with_reducible refine (HSU.out _ (HT.out.below hb)).mono ?_); rintro e W5 ⟨rfl, hb5⟩; replace hb := below_bl rfl hb hb5; clear hb5))
                go_ret
                exact ⟨rfl, hb⟩
              · have HTI := hide hti
                simp only at hc2
                obtain ⟨tg, htg⟩ : ∃ q, l.getD i 0 = q := ⟨_, rfl⟩
                rw [htg] at hc2 hti
                clear htg
                go_wp2
                go_round
                case rel => exact ⟨i + 1, hlt2, by go_num, fun j hj => by
                  by_cases hji : j = i
                  · subst hji; exact HTI.out
                  · exact HNO.out j (by omega)⟩
                case measure => simp [intOf]; omega
            · obtain rfl : i = k := by omega
              have hfn := find_not tag (ordL l i) (fun j hj => by rw [ord_get]; exact HNO.out j (by rw [ord_len] at hj; exact hj))
              obtain rfl : ev = .iface 37 (.int .i64 8) := by rw [← HEV.out, hfn]; rfl
              clear hfn
              go_wp2_with (first | (go_at_call 5; (with_reducible refine (HN8.out _ (HH.out.below hb)).mono ?_); rintro e W4 ⟨rfl, hb4⟩; replace hb := below_bl rfl hb hb4; clear hb4) | (go_at_call 7; (with_reducible refine (HSU.out _ (HT.out.below hb)).mono ?_); rintro e W5 ⟨rfl, hb5⟩; replace hb := below_bl rfl hb hb5; clear hb5))
              go_ret
              exact ⟨rfl, hb⟩
        | false =>
          rw [hris, if_neg (by decide), show errS 31 = .iface 37 (.int .i64 31) from rfl] at HE
          go_wp2_with (first | (go_at_call 4; (with_reducible refine (HE.out).mono ?_); rintro e W2 ⟨vb, rfl, _, hb2⟩; replace HO := hide (HO.out.bl hb2); replace hb := below_bl rfl hb hb2; clear hb2) | (go_at_call 6; (with_reducible refine (HF.out _ HO.out.secs (HT.out.below hb)).mono ?_); rintro e W3 ⟨uf, rfl, hrf, hb3⟩; replace HO := hide (HO.out.bl hb3); replace hb := below_bl rfl hb hb3; clear hb3; obtain ⟨af, cf, rfl, _, _⟩ := hrf.form; have HRF := hide hrf; clear hrf) | (go_at_call 5; (with_reducible refine (HN31.out _ (HH.out.below hb)).mono ?_); rintro e W4 ⟨rfl, hb4⟩; replace HO := hide (HO.out.bl hb4); replace hb := below_bl rfl hb hb4; clear hb4))
          go_loop [12] (Or2Rel l tag k) (fun iv => k - (intOf iv).toNat)
          case atStart => exact ⟨0, Nat.zero_le _, rfl, fun j h => absurd h (by omega)⟩
          case round =>
            obtain ⟨i, hi, rfl, hno⟩ := hrel
            have HNO := hide hno
            clear hno
            by_cases hlt2 : i < k
            · have hil : i < (ordL l k).length := by rw [ord_len]; exact hlt2
              obtain ⟨b2, o2, c2, hv2, _, _, _, HC2⟩ := HO.out.secs.all (by omega)
              rw [ord_len] at hv2
              injection hv2 with hv2 _ hv3
              subst hv2 hv3
              have hc2 := (HC2.out i hil).1
              rw [ord_get] at hc2
              by_cases hti : l.getD i 0 = tag
              · have hfa := find_at tag (ordL l k) i hil (fun j hj hji => by rw [ord_get]; exact HNO.out j hji) (by rw [ord_get]; exact hti)
                rw [ord_get] at hfa
                obtain rfl : ev = .nilIface := by rw [← HEV.out, hfa.1]; rfl
                obtain rfl : qb = [i % 256] := by rw [← HQB.out, hfa.2]
                obtain ⟨b3, o3, c3, hv4, _, _, _, HC3, _⟩ := HRF.out.all (show 0 < [i % 256].length from Nat.zero_lt_one)
                injection hv4 with hv4 _ hv5
                subst hv4 hv5
                have hc3 : _ = some (Value.int .u8 ((i % 256 : Nat) : Int)) := HC3.out 0 (show 0 < [i % 256].length from Nat.zero_lt_one)
                rw [Nat.add_zero] at hc3
                have hl1 : ([i % 256] : List Nat).length = 1 := rfl
                clear hfa
                simp only at hc2
                rw [hti] at hc2
                go_wp2_with ((go_at_call 7; (with_reducible refine (HSU.out _ (HT.out.below hb)).mono ?_); rintro e W5 ⟨rfl, hb5⟩; replace hb := below_bl rfl hb hb5; clear hb5))
                go_ret
                exact ⟨rfl, hb⟩
              · have HTI := hide hti
                simp only at hc2
                obtain ⟨tg, htg⟩ : ∃ q, l.getD i 0 = q := ⟨_, rfl⟩
                rw [htg] at hc2 hti
                clear htg
                go_wp2
                go_round
                case rel => exact ⟨i + 1, hlt2, by go_num, fun j hj => by
                  by_cases hji : j = i
                  · subst hji; exact HTI.out
                  · exact HNO.out j (by omega)⟩
                case measure => simp [intOf]; omega
            · obtain rfl : i = k := by omega
              have hfn := find_not tag (ordL l i) (fun j hj => by rw [ord_get]; exact HNO.out j (by rw [ord_len] at hj; exact hj))
              obtain rfl : ev = .iface 37 (.int .i64 8) := by rw [← HEV.out, hfn]; rfl
              clear hfn
              go_wp2_with (first | (go_at_call 5; (with_reducible refine (HN8.out _ (HH.out.below hb)).mono ?_); rintro e W4 ⟨rfl, hb4⟩; replace hb := below_bl rfl hb hb4; clear hb4) | (go_at_call 7; (with_reducible refine (HSU.out _ (HT.out.below hb)).mono ?_); rintro e W5 ⟨rfl, hb5⟩; replace hb := below_bl rfl hb hb5; clear hb5))
              go_ret
              exact ⟨rfl, hb⟩
end Go.Proofs.YtkahkkcbigifiabDoor
