/-
  sections, Decode: tlv's own.
-/
import Derived.Test.YtkahkkcbigifiaaDoorTvSctP
import Derived.Test.YtkahkkcbigifiaaDoorTvConS
namespace Go.Proofs.YtkahkkcbigifiaaDoor
open Go.RowKit
set_option linter.unusedVariables false
set_option linter.unusedSimpArgs false

variable {P : Program} {ops : Array Oper} {rest : List Oper} {dst : Option Tmp} {ty t t2 : TypeId} {pos : String} {after : Array Edge} {a : Act} {w : World} {Q : Exit → Act → World → Prop} {K : Act → World → Prop} {x y z : Operand} {gd : Option (Nat × Bool)}
def sctE (cnt : Nat) (r : List Nat) : Nat := match decS cnt none r with
  | .inl e => e
  | .inr (_, q) => if q = [] then 0 else 3
def sctM (cnt : Nat) (r : List Nat) : List Sct := match decS cnt none r with
  | .inl _ => []
  | .inr (l, q) => if q = [] then l else []
theorem sct_err {cnt : Nat} {r : List Nat} {e : Nat} (h : decS cnt none r = .inl e) : sctE cnt r = e ∧ sctM cnt r = [] := by
  unfold sctE sctM
  rw [h]
  exact ⟨rfl, rfl⟩
theorem one_err (j : Nat) (p : Option Nat) (r : List Nat) (h : oneE r ≠ 0) : decS (j + 1) p r = .inl (oneE r) := by
  unfold oneE at h ⊢
  by_cases h1 : r.length < 12
  · rw [if_pos h1]; exact dec_short j p r h1
  · rw [if_neg h1] at h ⊢
    by_cases h2 : r.length - 12 < numL ((r.drop 4).take 4)
    · rw [if_pos h2]; exact dec_end j p r h1 h2
    · rw [if_neg h2] at h ⊢
      by_cases h3 : okL (r.take (12 + numL ((r.drop 4).take 4))) = false
      · rw [if_pos h3]; exact dec_sum j p r h1 h2 h3
      · rw [if_neg h3] at h; exact absurd rfl h
theorem one_fine {r : List Nat} (h : oneE r = 0) : ¬ r.length < 12 ∧ ¬ r.length - 12 < numL ((r.drop 4).take 4) ∧ okL (r.take (12 + numL ((r.drop 4).take 4))) = true := by
  unfold oneE at h
  split at h
  · cases h
  rename_i h1
  split at h
  · cases h
  rename_i h2
  split at h
  · cases h
  rename_i h3
  exact ⟨h1, h2, by simpa using h3⟩
theorem ld_aggT {N : Nat} {p q : Value} {t' : TypeId} (hr : RowAt w N #[p, q] t') (hx : a.eval x = .pointer (some ⟨N, 0, none⟩)) (k : wpList Tryd.prog ops Q rest (a.put dst (.agg #[p, q])) w) : wpList Tryd.prog ops Q (⟨dst, .load 82 x, ty, pos, after, none⟩ :: rest) a w :=
  op_load N hx _ _ hr _ Tryd.underlying82 rfl (size_two p q) k
/-- What the first pass leaves. -/
def ScRel (cnt : Nat) (r0 : List Nat) (B N : Nat) (w0 : World) (vb lv iv : Value) (wr : World) : Prop := ∃ (k : Nat) (Lk : List Sct) (r : List Nat), k ≤ cnt ∧ iv = .int .i64 (k : Nat) ∧ Lk.length = k ∧ decS cnt none r0 = comb Lk (decS (cnt - k) (lastT Lk) r) ∧ OwnU N 82 wr lv Lk ∧ Rd B wr vb r ∧ r.length ≤ 100000 ∧ Below N w0 wr
theorem sec_u {M n : Nat} {e : TypeId} {w : World} {lv vo u : Value} {l : List Nat} {M' : Nat} (hu : u = sFrom vo n) (ho : Own (M + 1) e w vo l) (hn : n ≤ l.length) (hlv : ∀ k, lv.ownBlock = some k → M' ≤ k ∧ k < M) :
    ∃ lu au cu, u = .slice au lu cu ∧ Hid (OwnX w lv (.slice au lu cu) (l.drop n)) := by
  have hx := ownX_new (lv := lv) ho hn fun k hk => by have := hlv k hk; omega
  rw [← hu] at hx
  obtain ⟨a, c, rfl, _⟩ := hx.rd.form
  exact ⟨_, a, c, rfl, hide hx⟩
set_option maxRecDepth 100000 in
set_option maxHeartbeats 4000000 in
theorem sections_any {B : Nat} {v : Value} {r0 : List Nat} (cnt : Nat) (hcnt : cnt ≤ 4096) (w : World) (h : Rd B w v r0) (hB : B ≤ w.heap.size) (hn : r0.length ≤ 100000) (hT : TabAt w) :
    Calls Tryd.prog 45 #[v, .int .i64 (cnt : Nat)] w fun e w' => ∃ v', e = .returned (.tuple #[v', errS (sctE cnt r0)]) ∧ Secs w'.heap.size w' v' (sctM cnt r0) ∧ Below w.heap.size w w' := by
  obtain ⟨i0, hi0, hz0, hs0, hb0⟩ := info_ts
  have HI := hide hi0
  have HZ := hide hz0
  have HS := hide hs0
  have HB64 := hide (show i0.bytes ≤ 64 by rw [hb0]; decide)
  clear hi0 hz0 hs0 hb0
  have HT := hide hT
  have HR0 := hide h
  have hb : Below w.heap.size w w := Below.refl _ w
  obtain ⟨ee, hee⟩ : ∃ q, sctE cnt r0 = q := ⟨_, rfl⟩
  obtain ⟨mm, hmm⟩ : ∃ q, sctM cnt r0 = q := ⟨_, rfl⟩
  have HEE := hide hee
  have HMM := hide hmm
  rw [hee, hmm]
  clear hee hmm h hT
  go_enter Tryd.func45, Tryd.ntmps45
  go_wp2_with ((with_reducible refine op_mk2 (n := cnt) (k2 := .i64) w.heap.size i0 (.agg #[.int .u32 0, .slice none 0 0]) Tryd.underlying31 HI.out HZ.out HS.out HB64.out (by omega) (Nat.le_refl _) ?_ ?_ ?_); exact rfl; exact rfl; intro W0 l0 hown hb2; replace hb := hb2; clear hb2)
  go_loopw [0, 6, 13] (ScRel cnt r0 B w.heap.size w) (fun _ _ iv _ => cnt - (intOf iv).toNat)
  case atStart => exact ⟨0, [], r0, Nat.zero_le _, rfl, rfl, by rw [Nat.sub_zero, show lastT [] = none from rfl]; cases decS cnt none r0 <;> rfl, hown, HR0.out.bel (hb.mono hB), hn, hb⟩
  case round =>
    clear hb hown
    obtain ⟨k, Lk, r, hk, rfl, hLk, hdc, hown, hrd, hrn, hb⟩ := hrel
    have HO := hide hown
    have HDC := hide hdc
    have HRD := hide hrd
    have HLK := hide hLk
    obtain ⟨al, cl, rfl, hcl, hml⟩ := hown.form
    obtain ⟨ab, cb, rfl, hcb, hmb⟩ := hrd.form
    have hlv := hown.lt
    rw [hLk] at hcl hlv HO ⊢
    clear hown hdc hrd hLk
    by_cases hlt : k < cnt
    · obtain ⟨j, hj⟩ : ∃ j, cnt - k = j + 1 := ⟨cnt - k - 1, by omega⟩
      rw [hj] at HDC
      by_cases he : oneE r = 0
      · obtain ⟨f1, f2, f3⟩ := one_fine he
        obtain ⟨nn, hnn⟩ : ∃ q, numL ((r.drop 4).take 4) = q := ⟨_, rfl⟩
        obtain ⟨tg, htg⟩ : ∃ q, numL (r.take 4) = q := ⟨_, rfl⟩
        have HSO := hide (section_ok wr HRD.out (Nat.le_trans hB hb.size) hrn (HT.out.below hb) nn tg hnn htg he)
        have htgl := (le4 (l := r.take 4) (take_lt HRD.out.lt 4) (by rw [List.length_take]; omega)).2
        have HORD := hide (fun h4 => dec_ord j (lastT Lk) r f1 f2 f3 h4)
        have HGO := hide (fun h4 => dec_go Lk j (lastT Lk) r f1 f2 f3 h4)
        rw [htg] at HORD HGO htgl
        rw [hnn] at HGO f2
        have h12 : 12 + nn ≤ r.length := by omega
        have hl8 : (r.take (8 + nn)).length = 8 + nn := by rw [List.length_take]; omega
        have hd8 : (r.take (8 + nn)).drop 8 = (r.drop 8).take nn := by rw [List.drop_take]; congr 1; omega
        have HL8 := hide hl8
        have HD8 := hide hd8
        clear he f1 f2 f3 hnn htg hl8 hd8
        generalize r.take (8 + nn) = lb at *
        have HRL := hide h12
        obtain ⟨n1, hn1⟩ : ∃ q, r.length = q := ⟨_, rfl⟩
        have HN1 := hide hn1
        have hrdn := HRD.out
        rw [hn1] at hrdn
        have HRDN := hide hrdn
        have HRF := hide (hrdn.frm h12)
        have hBr : B ≤ wr.heap.size := Nat.le_trans hB hb.size
        clear hrdn
        clear h12
        rcases k with _ | k
        · have hL0 : Lk = [] := List.length_eq_zero_iff.1 HLK.out
          subst hL0
          have HG := hide (HGO.out rfl)
          clear HGO HORD
          rw [hn1] at HSO ⊢
          go_wp2_with (first | (go_at_call 57; (with_reducible refine (HSO.out).mono ?_); rintro e W1 ⟨vo, u, rfl, hu8, hos, hb2⟩; obtain ⟨lu, au, cu, rfl, HX0⟩ := sec_u (lv := .slice al 0 cl) hu8 hos (by have := HL8.out; omega) hlv; replace HO := hide (HO.out.bl hb2); replace hb := below_bl rfl hb hb2; have hbr := hb2; clear hu8 hos hb2) | ((with_reducible refine op_alloc W1.heap.size ?_ _ zero_ts ?_); exact rfl; intro W2 hx hb3 hz3) | ((with_reducible refine op_store W1.heap.size ?_ (#[.int .u32 (tg : Nat), .slice au lu cu] : Array Value) ?_ _ _ hx (size_two _ _) rfl (one_two _ _ _ _) ?_); exact rfl; exact rfl; intro W3 hnew ho; replace hb3 := ho.bel _ _ (Nat.le_refl _) hb3; replace hx := hnew; replace HO := hide (HO.out.bl hb3); have HX := hide (HX0.out.new (N := 0) hb3); replace hb := below_bl rfl hb hb3; replace hbr := below_bl rfl hbr hb3; clear hnew ho hb3))
          refine wp_region_held_drew (S := (fun U => Below W3.heap.size W3 U)) (by kernel_rfl) ?_ (fun hHeld => ?_)
          · exact (Below.refl _ W3).drew
          generalize W3.drew = V at hHeld ⊢
          refine wpAnyH_take (i := 0) (oi := ?oi1) (v := .slice al 0 cl) ?hi1 (by kernel_rfl) (by kernel_rfl) (by kernel_rfl) ?hQ1 ?hy1 (by assumption) ?rest1
          case hi1 => (simp only [List.getElem?_toArray, List.getElem?_cons_zero]; rfl)
          case hQ1 => exact fun _ _ _ h => h
          case hy1 => exact Or.inl ⟨by rfl, by (intro w hSw; (try dsimp only at hSw); go_simp )⟩
          simp only [Act.put, List.setIfInBounds_toArray, List.set_cons_zero, List.set_cons_succ]
          refine wpAnyH_take (i := 1) (oi := ?oi2) (v := .int .i64 ((0 : Nat) : Int)) ?hi2 (by kernel_rfl) (by kernel_rfl) (by kernel_rfl) ?hQ2 ?hy2 (by assumption) ?rest2
          case hi2 => (simp only [List.getElem?_toArray, List.getElem?_cons_zero, List.getElem?_cons_succ]; rfl)
          case hQ2 => exact fun _ _ _ h => h
          case hy2 => exact Or.inl ⟨by rfl, by (intro w hSw; (try dsimp only at hSw); go_simp )⟩
          simp only [Act.put, List.setIfInBounds_toArray, List.set_cons_zero, List.set_cons_succ]
          refine wpAnyH_take (i := 2) (oi := ?oi3) (v := .bool false) ?hi3 (by kernel_rfl) (by kernel_rfl) (by kernel_rfl) ?hQ3 ?hy3 (by assumption) ?rest3
          case hi3 => (simp only [List.getElem?_toArray, List.getElem?_cons_zero, List.getElem?_cons_succ]; rfl)
          case hQ3 => exact fun _ _ _ h => h
          case hy3 => exact Or.inl ⟨by rfl, by (intro w hSw; go_simp)⟩
          simp only [Act.put, List.setIfInBounds_toArray, List.set_cons_zero, List.set_cons_succ]
          refine wpAnyH_take (i := 3) (oi := ?oi4) (v := .bool false) ?hi4 (by kernel_rfl) (by kernel_rfl) (by kernel_rfl) ?hQ4 ?hy4 (by assumption) ?rest4
          case hi4 => (simp only [List.getElem?_toArray, List.getElem?_cons_zero, List.getElem?_cons_succ]; rfl)
          case hQ4 => exact fun _ _ _ h => h
          case hy4 => exact Or.inl ⟨by rfl, by (intro w hSw; (try dsimp only at hSw); go_simp )⟩
          simp only [Act.put, List.setIfInBounds_toArray, List.set_cons_zero, List.set_cons_succ]
          refine wpAnyH_take (i := 4) (oi := ?oi5) (v := undef) ?hi5 (by kernel_rfl) (by kernel_rfl) (by kernel_rfl) ?hQ5 ?hy5 (by assumption) ?rest5
          case hi5 => (simp only [List.getElem?_toArray, List.getElem?_cons_zero, List.getElem?_cons_succ]; rfl)
          case hQ5 => exact fun _ _ _ h => h
          case hy5 => exact Or.inr ⟨by rfl, rfl⟩
          simp only [Act.put, List.setIfInBounds_toArray, List.set_cons_zero, List.set_cons_succ]
          refine wpAnyH_take (i := 5) (oi := ?oi6) (v := undef) ?hi6 (by kernel_rfl) (by kernel_rfl) (by kernel_rfl) ?hQ6 ?hy6 (by assumption) ?rest6
          case hi6 => (simp only [List.getElem?_toArray, List.getElem?_cons_zero, List.getElem?_cons_succ]; rfl)
          case hQ6 => exact fun _ _ _ h => h
          case hy6 => exact Or.inr ⟨by rfl, rfl⟩
          simp only [Act.put, List.setIfInBounds_toArray, List.set_cons_zero, List.set_cons_succ]
          refine wpAnyH_take (i := 6) (oi := ?oi7) (v := undef) ?hi7 (by kernel_rfl) (by kernel_rfl) (by kernel_rfl) ?hQ7 ?hy7 (by assumption) ?rest7
          case hi7 => (simp only [List.getElem?_toArray, List.getElem?_cons_zero, List.getElem?_cons_succ]; rfl)
          case hQ7 => exact fun _ _ _ h => h
          case hy7 => exact Or.inr ⟨by rfl, rfl⟩
          simp only [Act.put, List.setIfInBounds_toArray, List.set_cons_zero, List.set_cons_succ]
          refine wpAnyH_take (i := 7) (oi := ?oi8) (v := undef) ?hi8 (by kernel_rfl) (by kernel_rfl) (by kernel_rfl) ?hQ8 ?hy8 (by assumption) ?rest8
          case hi8 => (simp only [List.getElem?_toArray, List.getElem?_cons_zero, List.getElem?_cons_succ]; rfl)
          case hQ8 => exact fun _ _ _ h => h
          case hy8 => exact Or.inr ⟨by rfl, rfl⟩
          simp only [Act.put, List.setIfInBounds_toArray, List.set_cons_zero, List.set_cons_succ]
          refine wpAnyH_take (i := 8) (oi := ?oi9) (v := undef) ?hi9 (by kernel_rfl) (by kernel_rfl) (by kernel_rfl) ?hQ9 ?hy9 (by assumption) ?rest9
          case hi9 => (simp only [List.getElem?_toArray, List.getElem?_cons_zero, List.getElem?_cons_succ]; rfl)
          case hQ9 => exact fun _ _ _ h => h
          case hy9 => exact Or.inr ⟨by rfl, rfl⟩
          simp only [Act.put, List.setIfInBounds_toArray, List.set_cons_zero, List.set_cons_succ]
          refine wpAnyH_take (i := 9) (oi := ?oi10) (v := undef) ?hi10 (by kernel_rfl) (by kernel_rfl) (by kernel_rfl) ?hQ10 ?hy10 (by assumption) ?rest10
          case hi10 => (simp only [List.getElem?_toArray, List.getElem?_cons_zero, List.getElem?_cons_succ]; rfl)
          case hQ10 => exact fun _ _ _ h => h
          case hy10 => exact Or.inr ⟨by rfl, rfl⟩
          simp only [Act.put, List.setIfInBounds_toArray, List.set_cons_zero, List.set_cons_succ]
          refine wpAnyH_take (i := 10) (oi := ?oi11) (v := undef) ?hi11 (by kernel_rfl) (by kernel_rfl) (by kernel_rfl) ?hQ11 ?hy11 (by assumption) ?rest11
          case hi11 => (simp only [List.getElem?_toArray, List.getElem?_cons_zero, List.getElem?_cons_succ]; rfl)
          case hQ11 => exact fun _ _ _ h => h
          case hy11 => exact Or.inr ⟨by rfl, rfl⟩
          simp only [Act.put, List.setIfInBounds_toArray, List.set_cons_zero, List.set_cons_succ]
          refine wpAnyH_take (i := 11) (oi := ?oi12) (v := undef) ?hi12 (by kernel_rfl) (by kernel_rfl) (by kernel_rfl) ?hQ12 ?hy12 (by assumption) ?rest12
          case hi12 => (simp only [List.getElem?_toArray, List.getElem?_cons_zero, List.getElem?_cons_succ]; rfl)
          case hQ12 => exact fun _ _ _ h => h
          case hy12 => exact Or.inr ⟨by rfl, rfl⟩
          simp only [Act.put, List.setIfInBounds_toArray, List.set_cons_zero, List.set_cons_succ]
          refine wpAnyH_take (i := 12) (oi := ?oi13) (v := undef) ?hi13 (by kernel_rfl) (by kernel_rfl) (by kernel_rfl) ?hQ13 ?hy13 (by assumption) ?rest13
          case hi13 => (simp only [List.getElem?_toArray, List.getElem?_cons_zero, List.getElem?_cons_succ]; rfl)
          case hQ13 => exact fun _ _ _ h => h
          case hy13 => exact Or.inr ⟨by rfl, rfl⟩
          simp only [Act.put, List.setIfInBounds_toArray, List.set_cons_zero, List.set_cons_succ]
          refine wpAnyH_take (i := 13) (oi := ?oi14) (v := undef) ?hi14 (by kernel_rfl) (by kernel_rfl) (by kernel_rfl) ?hQ14 ?hy14 (by assumption) ?rest14
          case hi14 => (simp only [List.getElem?_toArray, List.getElem?_cons_zero, List.getElem?_cons_succ]; rfl)
          case hQ14 => exact fun _ _ _ h => h
          case hy14 => exact Or.inr ⟨by rfl, rfl⟩
          simp only [Act.put, List.setIfInBounds_toArray, List.set_cons_zero, List.set_cons_succ]
          refine wpAnyH_take (i := 14) (oi := ?oi15) (v := .bool false) ?hi15 (by kernel_rfl) (by kernel_rfl) (by kernel_rfl) ?hQ15 ?hy15 (by assumption) ?rest15
          case hi15 => (simp only [List.getElem?_toArray, List.getElem?_cons_zero, List.getElem?_cons_succ]; rfl)
          case hQ15 => exact fun _ _ _ h => h
          case hy15 => exact Or.inl ⟨by rfl, by (intro w hSw; (try dsimp only at hSw); go_simp )⟩
          simp only [Act.put, List.setIfInBounds_toArray, List.set_cons_zero, List.set_cons_succ]
          refine wpAnyH_done (by kernel_rfl) ?_ _
          replace hx := hx.bl hHeld
          replace HO := hide (HO.out.bl hHeld)
          replace HX := hide (HX.out.new (N := 0) hHeld)
          replace hb := below_bl rfl hb hHeld
          replace hbr := below_bl rfl hbr hHeld
          clear hHeld
          have hLk5 : ([] : List Sct).length ≤ 100000 := by have := HLK.out; omega
          go_wp2_with (first | ((with_reducible refine ld_aggT hx ?_ ?_); exact rfl) | ((with_reducible refine op_app2u i0 (.agg #[.int .u32 0, .slice none 0 0]) Tryd.underlying31 HI.out HZ.out HS.out HB64.out rfl ⟨tg, lb.drop 8⟩ _ 1 (HO.out.bl (below_one _ _)) htgl (HX.out.new (N := 0) (below_one _ _)) hLk5 ?_ (newc _ #[.int .u32 (tg : Nat), .slice au lu cu] _ 0 _ rfl) (newc _ #[.int .u32 (tg : Nat), .slice au lu cu] _ 1 _ rfl) ?_ ?_ ?_); (have := hb.size; simp; omega); exact rfl; exact rfl; intro W6 v6 hown hgr; replace hb := (hb.trans ((below_one _ _).mono hb.size)).grown hgr (by have := hb.size; simp; omega) (fun k hk => (HO.out.lt k hk).1); replace hbr := ((hbr.mono hBr).trans ((below_one _ _).mono (Nat.le_trans hBr hbr.size))).grown hgr (by have := hbr.size; simp; omega) (fun k hk => Nat.le_trans hB (HO.out.lt k hk).1)) | ((with_reducible refine g_frm HRDN.out (12 + nn) HRL.out und_sl siz_sl ?_ ?_ ?_ ?_); exact rfl; exact congrArg (Value.int .i64) (by omega); exact rfl))
          go_roundw
          case rel => exact ⟨0 + 1, ([] : List Sct) ++ [⟨tg, lb.drop 8⟩], r.drop (12 + nn), hlt, by go_num, by rw [List.length_append, List.length_singleton, HLK.out], by rw [HDC.out, HG.out, lastT_snoc, HD8.out, show cnt - (0 + 1) = j by omega], hown, HRF.out.bel hbr, by rw [List.length_drop]; omega, hb⟩
          case measure => simp [intOf]; omega
        · have hLn : Lk ≠ [] := fun hq => by have := HLK.out; rw [hq] at this; cases this
          have hkL : k < Lk.length := by have := HLK.out; omega
          have HLT := hide (lastT_at Lk k HLK.out)
          have HTL := hide (HO.out.1 _ (List.getElem_mem hkL))
          obtain ⟨gb, go, gc, hge, _, _, hgB, HGC⟩ := HO.out.secs.all (by omega)
          injection hge with hge1 hge2 hge3
          subst hge1 hge3
          have HGT := hide (HGC.out k hkL).1
          clear hge2
          by_cases hup : Lk[k].tag < tg
          · have HG := hide (HGO.out (by rw [HLT.out]; exact decide_eq_true hup))
            clear HGO HORD
            have htl := HTL.out
            generalize Lk[k].tag = tl at *
            rw [hn1] at HSO ⊢
            go_wp2_with (first | (go_at_call 57; (with_reducible refine (HSO.out).mono ?_); rintro e W1 ⟨vo, u, rfl, hu8, hos, hb2⟩; obtain ⟨lu, au, cu, rfl, HX0⟩ := sec_u (lv := .slice (some ⟨gb, go, none⟩) (k + 1) cl) hu8 hos (by have := HL8.out; omega) hlv; replace HO := hide (HO.out.bl hb2); replace hb := below_bl rfl hb hb2; have hbr := hb2; clear hu8 hos hb2) | ((with_reducible refine op_alloc W1.heap.size ?_ _ zero_ts ?_); exact rfl; intro W2 hx hb3 hz3) | ((with_reducible refine op_store W1.heap.size ?_ (#[.int .u32 (tg : Nat), .slice au lu cu] : Array Value) ?_ _ _ hx (size_two _ _) rfl (one_two _ _ _ _) ?_); exact rfl; exact rfl; intro W3 hnew ho; replace hb3 := ho.bel _ _ (Nat.le_refl _) hb3; replace hx := hnew; replace HO := hide (HO.out.bl hb3); have HX := hide (HX0.out.new (N := 0) hb3); replace hb := below_bl rfl hb hb3; replace hbr := below_bl rfl hbr hb3; clear hnew ho hb3))
            have hgW := Nat.lt_of_lt_of_le hgB hbr.size
            have HGT3 := (hbr.cell (p := ⟨gb, go + k * 2, none⟩) hgB).trans HGT.out
            refine wp_region_held_drew (S := (fun U => Below W3.heap.size W3 U)) (by kernel_rfl) ?_ (fun hHeld => ?_)
            · exact (Below.refl _ W3).drew
            generalize W3.drew = V at hHeld ⊢
            refine wpAnyH_take (i := 0) (oi := ?oi16) (v := .slice (some ⟨gb, go, none⟩) (k + 1) cl) ?hi16 (by kernel_rfl) (by kernel_rfl) (by kernel_rfl) ?hQ16 ?hy16 (by assumption) ?rest16
            case hi16 => (simp only [List.getElem?_toArray, List.getElem?_cons_zero]; rfl)
            case hQ16 => exact fun _ _ _ h => h
            case hy16 => exact Or.inl ⟨by rfl, by (intro w hSw; (try dsimp only at hSw); go_simp )⟩
            simp only [Act.put, List.setIfInBounds_toArray, List.set_cons_zero, List.set_cons_succ]
            refine wpAnyH_take (i := 1) (oi := ?oi17) (v := .int .i64 (((k + 1) : Nat) : Int)) ?hi17 (by kernel_rfl) (by kernel_rfl) (by kernel_rfl) ?hQ17 ?hy17 (by assumption) ?rest17
            case hi17 => (simp only [List.getElem?_toArray, List.getElem?_cons_zero, List.getElem?_cons_succ]; rfl)
            case hQ17 => exact fun _ _ _ h => h
            case hy17 => exact Or.inl ⟨by rfl, by (intro w hSw; (try dsimp only at hSw); go_simp )⟩
            simp only [Act.put, List.setIfInBounds_toArray, List.set_cons_zero, List.set_cons_succ]
            refine wpAnyH_take (i := 2) (oi := ?oi18) (v := .bool true) ?hi18 (by kernel_rfl) (by kernel_rfl) (by kernel_rfl) ?hQ18 ?hy18 (by assumption) ?rest18
            case hi18 => (simp only [List.getElem?_toArray, List.getElem?_cons_zero, List.getElem?_cons_succ]; rfl)
            case hQ18 => exact fun _ _ _ h => h
            case hy18 => exact Or.inl ⟨by rfl, by (intro w hSw; go_simp)⟩
            simp only [Act.put, List.setIfInBounds_toArray, List.set_cons_zero, List.set_cons_succ]
            refine wpAnyH_take (i := 3) (oi := ?oi19) (v := .bool true) ?hi19 (by kernel_rfl) (by kernel_rfl) (by kernel_rfl) ?hQ19 ?hy19 (by assumption) ?rest19
            case hi19 => (simp only [List.getElem?_toArray, List.getElem?_cons_zero, List.getElem?_cons_succ]; rfl)
            case hQ19 => exact fun _ _ _ h => h
            case hy19 => exact Or.inl ⟨by rfl, by (intro w hSw; (try dsimp only at hSw); go_simp )⟩
            simp only [Act.put, List.setIfInBounds_toArray, List.set_cons_zero, List.set_cons_succ]
            refine wpAnyH_take (i := 4) (oi := ?oi20) (v := .pointer (some ⟨W1.heap.size, 0, none⟩)) ?hi20 (by kernel_rfl) (by kernel_rfl) (by kernel_rfl) ?hQ20 ?hy20 (by assumption) ?rest20
            case hi20 => (simp only [List.getElem?_toArray, List.getElem?_cons_zero, List.getElem?_cons_succ]; rfl)
            case hQ20 => exact fun _ _ _ h => h
            case hy20 => exact Or.inl ⟨by rfl, by (intro w hSw; (try dsimp only at hSw); go_simp )⟩
            simp only [Act.put, List.setIfInBounds_toArray, List.set_cons_zero, List.set_cons_succ]
            refine wpAnyH_take (i := 5) (oi := ?oi21) (v := .int .u32 (tg : Nat)) ?hi21 (by kernel_rfl) (by kernel_rfl) (by kernel_rfl) ?hQ21 ?hy21 (by assumption) ?rest21
            case hi21 => (simp only [List.getElem?_toArray, List.getElem?_cons_zero, List.getElem?_cons_succ]; rfl)
            case hQ21 => exact fun _ _ _ h => h
            case hy21 => exact y_any W1.heap.size 0 _ (fun U hU => (hU.cell (p := ⟨W1.heap.size, 0, none⟩) hx.lt).trans (hx.cell 0)) _ Tryd.underlying22 rfl rfl rfl
            simp only [Act.put, List.setIfInBounds_toArray, List.set_cons_zero, List.set_cons_succ]
            refine wpAnyH_take (i := 6) (oi := ?oi22) (v := .slice (some ⟨gb, go, none⟩) (k + 1) cl) ?hi22 (by kernel_rfl) (by kernel_rfl) (by kernel_rfl) ?hQ22 ?hy22 (by assumption) ?rest22
            case hi22 => (simp only [List.getElem?_toArray, List.getElem?_cons_zero, List.getElem?_cons_succ]; rfl)
            case hQ22 => exact fun _ _ _ h => h
            case hy22 => exact Or.inl ⟨by rfl, by (intro w hSw; (try dsimp only at hSw); go_simp )⟩
            simp only [Act.put, List.setIfInBounds_toArray, List.set_cons_zero, List.set_cons_succ]
            refine wpAnyH_take (i := 7) (oi := ?oi23) (v := .slice (some ⟨gb, go, none⟩) (k + 1) cl) ?hi23 (by kernel_rfl) (by kernel_rfl) (by kernel_rfl) ?hQ23 ?hy23 (by assumption) ?rest23
            case hi23 => (simp only [List.getElem?_toArray, List.getElem?_cons_zero, List.getElem?_cons_succ]; rfl)
            case hQ23 => exact fun _ _ _ h => h
            case hy23 => exact Or.inl ⟨by rfl, by (intro w hSw; (try dsimp only at hSw); go_simp )⟩
            simp only [Act.put, List.setIfInBounds_toArray, List.set_cons_zero, List.set_cons_succ]
            refine wpAnyH_take (i := 8) (oi := ?oi24) (v := .int .i64 (((k + 1) : Nat) : Int)) ?hi24 (by kernel_rfl) (by kernel_rfl) (by kernel_rfl) ?hQ24 ?hy24 (by assumption) ?rest24
            case hi24 => (simp only [List.getElem?_toArray, List.getElem?_cons_zero, List.getElem?_cons_succ]; rfl)
            case hQ24 => exact fun _ _ _ h => h
            case hy24 => exact Or.inl ⟨by rfl, by (intro w hSw; (try dsimp only at hSw); go_simp )⟩
            simp only [Act.put, List.setIfInBounds_toArray, List.set_cons_zero, List.set_cons_succ]
            refine wpAnyH_take (i := 9) (oi := ?oi25) (v := .int .i64 (k : Nat)) ?hi25 (by kernel_rfl) (by kernel_rfl) (by kernel_rfl) ?hQ25 ?hy25 (by assumption) ?rest25
            case hi25 => (simp only [List.getElem?_toArray, List.getElem?_cons_zero, List.getElem?_cons_succ]; rfl)
            case hQ25 => exact fun _ _ _ h => h
            case hy25 => exact Or.inl ⟨by rfl, by (intro w hSw; go_simp; exact i64_in _ (by omega) (by omega))⟩
            simp only [Act.put, List.setIfInBounds_toArray, List.set_cons_zero, List.set_cons_succ]
            refine wpAnyH_take (i := 10) (oi := ?oi26) (v := .pointer (some ⟨gb, go + k * 2, none⟩)) ?hi26 (by kernel_rfl) (by kernel_rfl) (by kernel_rfl) ?hQ26 ?hy26 (by assumption) ?rest26
            case hi26 => (simp only [List.getElem?_toArray, List.getElem?_cons_zero, List.getElem?_cons_succ]; rfl)
            case hQ26 => exact fun _ _ _ h => h
            case hy26 => exact Or.inl ⟨by rfl, fun U hU => ex_idxT gb go (k + 1) cl k (by omega) rfl rfl U⟩
            simp only [Act.put, List.setIfInBounds_toArray, List.set_cons_zero, List.set_cons_succ]
            refine wpAnyH_take (i := 11) (oi := ?oi27) (v := .pointer (some ⟨gb, go + k * 2, none⟩)) ?hi27 (by kernel_rfl) (by kernel_rfl) (by kernel_rfl) ?hQ27 ?hy27 (by assumption) ?rest27
            case hi27 => (simp only [List.getElem?_toArray, List.getElem?_cons_zero, List.getElem?_cons_succ]; rfl)
            case hQ27 => exact fun _ _ _ h => h
            case hy27 => exact Or.inl ⟨by rfl, by (intro w hSw; (try dsimp only at hSw); go_simp )⟩
            simp only [Act.put, List.setIfInBounds_toArray, List.set_cons_zero, List.set_cons_succ]
            refine wpAnyH_take (i := 12) (oi := ?oi28) (v := .int .u32 (tl : Nat)) ?hi28 (by kernel_rfl) (by kernel_rfl) (by kernel_rfl) ?hQ28 ?hy28 (by assumption) ?rest28
            case hi28 => (simp only [List.getElem?_toArray, List.getElem?_cons_zero, List.getElem?_cons_succ]; rfl)
            case hQ28 => exact fun _ _ _ h => h
            case hy28 => exact y_any gb (go + k * 2) _ (fun U hU => (hU.cell (p := ⟨gb, go + k * 2, none⟩) hgW).trans HGT3) _ Tryd.underlying22 rfl rfl rfl
            simp only [Act.put, List.setIfInBounds_toArray, List.set_cons_zero, List.set_cons_succ]
            refine wpAnyH_take (i := 13) (oi := ?oi29) (v := .bool false) ?hi29 (by kernel_rfl) (by kernel_rfl) (by kernel_rfl) ?hQ29 ?hy29 (by assumption) ?rest29
            case hi29 => (simp only [List.getElem?_toArray, List.getElem?_cons_zero, List.getElem?_cons_succ]; rfl)
            case hQ29 => exact fun _ _ _ h => h
            case hy29 => exact Or.inl ⟨by rfl, by (intro w hSw; go_simp; try omega)⟩
            simp only [Act.put, List.setIfInBounds_toArray, List.set_cons_zero, List.set_cons_succ]
            refine wpAnyH_take (i := 14) (oi := ?oi30) (v := .bool false) ?hi30 (by kernel_rfl) (by kernel_rfl) (by kernel_rfl) ?hQ30 ?hy30 (by assumption) ?rest30
            case hi30 => (simp only [List.getElem?_toArray, List.getElem?_cons_zero, List.getElem?_cons_succ]; rfl)
            case hQ30 => exact fun _ _ _ h => h
            case hy30 => exact Or.inl ⟨by rfl, by (intro w hSw; (try dsimp only at hSw); go_simp )⟩
            simp only [Act.put, List.setIfInBounds_toArray, List.set_cons_zero, List.set_cons_succ]
            refine wpAnyH_done (by kernel_rfl) ?_ _
            replace hx := hx.bl hHeld
            replace HO := hide (HO.out.bl hHeld)
            replace HX := hide (HX.out.new (N := 0) hHeld)
            replace hb := below_bl rfl hb hHeld
            replace hbr := below_bl rfl hbr hHeld
            clear hHeld
            have hLk5 : (Lk : List Sct).length ≤ 100000 := by have := HLK.out; omega
            go_wp2_with (first | ((with_reducible refine ld_aggT hx ?_ ?_); exact rfl) | ((with_reducible refine op_app2u i0 (.agg #[.int .u32 0, .slice none 0 0]) Tryd.underlying31 HI.out HZ.out HS.out HB64.out rfl ⟨tg, lb.drop 8⟩ _ 1 (HO.out.bl (below_one _ _)) htgl (HX.out.new (N := 0) (below_one _ _)) hLk5 ?_ (newc _ #[.int .u32 (tg : Nat), .slice au lu cu] _ 0 _ rfl) (newc _ #[.int .u32 (tg : Nat), .slice au lu cu] _ 1 _ rfl) ?_ ?_ ?_); (have := hb.size; simp; omega); exact rfl; exact rfl; intro W6 v6 hown hgr; replace hb := (hb.trans ((below_one _ _).mono hb.size)).grown hgr (by have := hb.size; simp; omega) (fun k hk => (HO.out.lt k hk).1); replace hbr := ((hbr.mono hBr).trans ((below_one _ _).mono (Nat.le_trans hBr hbr.size))).grown hgr (by have := hbr.size; simp; omega) (fun k hk => Nat.le_trans hB (HO.out.lt k hk).1)) | ((with_reducible refine g_frm HRDN.out (12 + nn) HRL.out und_sl siz_sl ?_ ?_ ?_ ?_); exact rfl; exact congrArg (Value.int .i64) (by omega); exact rfl))
            go_roundw
            case rel => exact ⟨(k + 1) + 1, (Lk : List Sct) ++ [⟨tg, lb.drop 8⟩], r.drop (12 + nn), hlt, by go_num, by rw [List.length_append, List.length_singleton, HLK.out], by rw [HDC.out, HG.out, lastT_snoc, HD8.out, show cnt - ((k + 1) + 1) = j by omega], hown, HRF.out.bel hbr, by rw [List.length_drop]; omega, hb⟩
            case measure => simp [intOf]; omega
          · have HE := hide (sct_err (HDC.out.trans (by rw [HORD.out (by rw [HLT.out]; exact decide_eq_false hup)]; rfl)))
            clear HGO HORD
            have htl := HTL.out
            generalize Lk[k].tag = tl at *
            rw [hn1] at HSO ⊢
            go_wp2_with (first | (go_at_call 57; (with_reducible refine (HSO.out).mono ?_); rintro e W1 ⟨vo, u, rfl, hu8, hos, hb2⟩; obtain ⟨lu, au, cu, rfl, HX0⟩ := sec_u (lv := .slice (some ⟨gb, go, none⟩) (k + 1) cl) hu8 hos (by have := HL8.out; omega) hlv; replace HO := hide (HO.out.bl hb2); replace hb := below_bl rfl hb hb2; have hbr := hb2; clear hu8 hos hb2) | ((with_reducible refine op_alloc W1.heap.size ?_ _ zero_ts ?_); exact rfl; intro W2 hx hb3 hz3) | ((with_reducible refine op_store W1.heap.size ?_ (#[.int .u32 (tg : Nat), .slice au lu cu] : Array Value) ?_ _ _ hx (size_two _ _) rfl (one_two _ _ _ _) ?_); exact rfl; exact rfl; intro W3 hnew ho; replace hb3 := ho.bel _ _ (Nat.le_refl _) hb3; replace hx := hnew; replace HO := hide (HO.out.bl hb3); have HX := hide (HX0.out.new (N := 0) hb3); replace hb := below_bl rfl hb hb3; replace hbr := below_bl rfl hbr hb3; clear hnew ho hb3))
            have hgW := Nat.lt_of_lt_of_le hgB hbr.size
            have HGT3 := (hbr.cell (p := ⟨gb, go + k * 2, none⟩) hgB).trans HGT.out
            have hle : tg ≤ tl := by omega
            refine wp_region_held_drew (S := (fun U => Below W3.heap.size W3 U)) (by kernel_rfl) ?_ (fun hHeld => ?_)
            · exact (Below.refl _ W3).drew
            generalize W3.drew = V at hHeld ⊢
            refine wpAnyH_take (i := 0) (oi := ?oi31) (v := .slice (some ⟨gb, go, none⟩) (k + 1) cl) ?hi31 (by kernel_rfl) (by kernel_rfl) (by kernel_rfl) ?hQ31 ?hy31 (by assumption) ?rest31
            case hi31 => (simp only [List.getElem?_toArray, List.getElem?_cons_zero]; rfl)
            case hQ31 => exact fun _ _ _ h => h
            case hy31 => exact Or.inl ⟨by rfl, by (intro w hSw; (try dsimp only at hSw); go_simp )⟩
            simp only [Act.put, List.setIfInBounds_toArray, List.set_cons_zero, List.set_cons_succ]
            refine wpAnyH_take (i := 1) (oi := ?oi32) (v := .int .i64 (((k + 1) : Nat) : Int)) ?hi32 (by kernel_rfl) (by kernel_rfl) (by kernel_rfl) ?hQ32 ?hy32 (by assumption) ?rest32
            case hi32 => (simp only [List.getElem?_toArray, List.getElem?_cons_zero, List.getElem?_cons_succ]; rfl)
            case hQ32 => exact fun _ _ _ h => h
            case hy32 => exact Or.inl ⟨by rfl, by (intro w hSw; (try dsimp only at hSw); go_simp )⟩
            simp only [Act.put, List.setIfInBounds_toArray, List.set_cons_zero, List.set_cons_succ]
            refine wpAnyH_take (i := 2) (oi := ?oi33) (v := .bool true) ?hi33 (by kernel_rfl) (by kernel_rfl) (by kernel_rfl) ?hQ33 ?hy33 (by assumption) ?rest33
            case hi33 => (simp only [List.getElem?_toArray, List.getElem?_cons_zero, List.getElem?_cons_succ]; rfl)
            case hQ33 => exact fun _ _ _ h => h
            case hy33 => exact Or.inl ⟨by rfl, by (intro w hSw; go_simp)⟩
            simp only [Act.put, List.setIfInBounds_toArray, List.set_cons_zero, List.set_cons_succ]
            refine wpAnyH_take (i := 3) (oi := ?oi34) (v := .bool true) ?hi34 (by kernel_rfl) (by kernel_rfl) (by kernel_rfl) ?hQ34 ?hy34 (by assumption) ?rest34
            case hi34 => (simp only [List.getElem?_toArray, List.getElem?_cons_zero, List.getElem?_cons_succ]; rfl)
            case hQ34 => exact fun _ _ _ h => h
            case hy34 => exact Or.inl ⟨by rfl, by (intro w hSw; (try dsimp only at hSw); go_simp )⟩
            simp only [Act.put, List.setIfInBounds_toArray, List.set_cons_zero, List.set_cons_succ]
            refine wpAnyH_take (i := 4) (oi := ?oi35) (v := .pointer (some ⟨W1.heap.size, 0, none⟩)) ?hi35 (by kernel_rfl) (by kernel_rfl) (by kernel_rfl) ?hQ35 ?hy35 (by assumption) ?rest35
            case hi35 => (simp only [List.getElem?_toArray, List.getElem?_cons_zero, List.getElem?_cons_succ]; rfl)
            case hQ35 => exact fun _ _ _ h => h
            case hy35 => exact Or.inl ⟨by rfl, by (intro w hSw; (try dsimp only at hSw); go_simp )⟩
            simp only [Act.put, List.setIfInBounds_toArray, List.set_cons_zero, List.set_cons_succ]
            refine wpAnyH_take (i := 5) (oi := ?oi36) (v := .int .u32 (tg : Nat)) ?hi36 (by kernel_rfl) (by kernel_rfl) (by kernel_rfl) ?hQ36 ?hy36 (by assumption) ?rest36
            case hi36 => (simp only [List.getElem?_toArray, List.getElem?_cons_zero, List.getElem?_cons_succ]; rfl)
            case hQ36 => exact fun _ _ _ h => h
            case hy36 => exact y_any W1.heap.size 0 _ (fun U hU => (hU.cell (p := ⟨W1.heap.size, 0, none⟩) hx.lt).trans (hx.cell 0)) _ Tryd.underlying22 rfl rfl rfl
            simp only [Act.put, List.setIfInBounds_toArray, List.set_cons_zero, List.set_cons_succ]
            refine wpAnyH_take (i := 6) (oi := ?oi37) (v := .slice (some ⟨gb, go, none⟩) (k + 1) cl) ?hi37 (by kernel_rfl) (by kernel_rfl) (by kernel_rfl) ?hQ37 ?hy37 (by assumption) ?rest37
            case hi37 => (simp only [List.getElem?_toArray, List.getElem?_cons_zero, List.getElem?_cons_succ]; rfl)
            case hQ37 => exact fun _ _ _ h => h
            case hy37 => exact Or.inl ⟨by rfl, by (intro w hSw; (try dsimp only at hSw); go_simp )⟩
            simp only [Act.put, List.setIfInBounds_toArray, List.set_cons_zero, List.set_cons_succ]
            refine wpAnyH_take (i := 7) (oi := ?oi38) (v := .slice (some ⟨gb, go, none⟩) (k + 1) cl) ?hi38 (by kernel_rfl) (by kernel_rfl) (by kernel_rfl) ?hQ38 ?hy38 (by assumption) ?rest38
            case hi38 => (simp only [List.getElem?_toArray, List.getElem?_cons_zero, List.getElem?_cons_succ]; rfl)
            case hQ38 => exact fun _ _ _ h => h
            case hy38 => exact Or.inl ⟨by rfl, by (intro w hSw; (try dsimp only at hSw); go_simp )⟩
            simp only [Act.put, List.setIfInBounds_toArray, List.set_cons_zero, List.set_cons_succ]
            refine wpAnyH_take (i := 8) (oi := ?oi39) (v := .int .i64 (((k + 1) : Nat) : Int)) ?hi39 (by kernel_rfl) (by kernel_rfl) (by kernel_rfl) ?hQ39 ?hy39 (by assumption) ?rest39
            case hi39 => (simp only [List.getElem?_toArray, List.getElem?_cons_zero, List.getElem?_cons_succ]; rfl)
            case hQ39 => exact fun _ _ _ h => h
            case hy39 => exact Or.inl ⟨by rfl, by (intro w hSw; (try dsimp only at hSw); go_simp )⟩
            simp only [Act.put, List.setIfInBounds_toArray, List.set_cons_zero, List.set_cons_succ]
            refine wpAnyH_take (i := 9) (oi := ?oi40) (v := .int .i64 (k : Nat)) ?hi40 (by kernel_rfl) (by kernel_rfl) (by kernel_rfl) ?hQ40 ?hy40 (by assumption) ?rest40
            case hi40 => (simp only [List.getElem?_toArray, List.getElem?_cons_zero, List.getElem?_cons_succ]; rfl)
            case hQ40 => exact fun _ _ _ h => h
            case hy40 => exact Or.inl ⟨by rfl, by (intro w hSw; go_simp; exact i64_in _ (by omega) (by omega))⟩
            simp only [Act.put, List.setIfInBounds_toArray, List.set_cons_zero, List.set_cons_succ]
            refine wpAnyH_take (i := 10) (oi := ?oi41) (v := .pointer (some ⟨gb, go + k * 2, none⟩)) ?hi41 (by kernel_rfl) (by kernel_rfl) (by kernel_rfl) ?hQ41 ?hy41 (by assumption) ?rest41
            case hi41 => (simp only [List.getElem?_toArray, List.getElem?_cons_zero, List.getElem?_cons_succ]; rfl)
            case hQ41 => exact fun _ _ _ h => h
            case hy41 => exact Or.inl ⟨by rfl, fun U hU => ex_idxT gb go (k + 1) cl k (by omega) rfl rfl U⟩
            simp only [Act.put, List.setIfInBounds_toArray, List.set_cons_zero, List.set_cons_succ]
            refine wpAnyH_take (i := 11) (oi := ?oi42) (v := .pointer (some ⟨gb, go + k * 2, none⟩)) ?hi42 (by kernel_rfl) (by kernel_rfl) (by kernel_rfl) ?hQ42 ?hy42 (by assumption) ?rest42
            case hi42 => (simp only [List.getElem?_toArray, List.getElem?_cons_zero, List.getElem?_cons_succ]; rfl)
            case hQ42 => exact fun _ _ _ h => h
            case hy42 => exact Or.inl ⟨by rfl, by (intro w hSw; (try dsimp only at hSw); go_simp )⟩
            simp only [Act.put, List.setIfInBounds_toArray, List.set_cons_zero, List.set_cons_succ]
            refine wpAnyH_take (i := 12) (oi := ?oi43) (v := .int .u32 (tl : Nat)) ?hi43 (by kernel_rfl) (by kernel_rfl) (by kernel_rfl) ?hQ43 ?hy43 (by assumption) ?rest43
            case hi43 => (simp only [List.getElem?_toArray, List.getElem?_cons_zero, List.getElem?_cons_succ]; rfl)
            case hQ43 => exact fun _ _ _ h => h
            case hy43 => exact y_any gb (go + k * 2) _ (fun U hU => (hU.cell (p := ⟨gb, go + k * 2, none⟩) hgW).trans HGT3) _ Tryd.underlying22 rfl rfl rfl
            simp only [Act.put, List.setIfInBounds_toArray, List.set_cons_zero, List.set_cons_succ]
            refine wpAnyH_take (i := 13) (oi := ?oi44) (v := .bool true) ?hi44 (by kernel_rfl) (by kernel_rfl) (by kernel_rfl) ?hQ44 ?hy44 (by assumption) ?rest44
            case hi44 => (simp only [List.getElem?_toArray, List.getElem?_cons_zero, List.getElem?_cons_succ]; rfl)
            case hQ44 => exact fun _ _ _ h => h
            case hy44 => exact Or.inl ⟨by rfl, by (intro w hSw; go_simp; try omega)⟩
            simp only [Act.put, List.setIfInBounds_toArray, List.set_cons_zero, List.set_cons_succ]
            refine wpAnyH_take (i := 14) (oi := ?oi45) (v := .bool true) ?hi45 (by kernel_rfl) (by kernel_rfl) (by kernel_rfl) ?hQ45 ?hy45 (by assumption) ?rest45
            case hi45 => (simp only [List.getElem?_toArray, List.getElem?_cons_zero, List.getElem?_cons_succ]; rfl)
            case hQ45 => exact fun _ _ _ h => h
            case hy45 => exact Or.inl ⟨by rfl, by (intro w hSw; (try dsimp only at hSw); go_simp )⟩
            simp only [Act.put, List.setIfInBounds_toArray, List.set_cons_zero, List.set_cons_succ]
            refine wpAnyH_done (by kernel_rfl) ?_ _
            replace hb := below_bl rfl hb hHeld
            clear hHeld
            go_wp2
            go_ret2
            exact ⟨_, by rw [← HEE.out, HE.out.1]; rfl, by rw [← HMM.out, HE.out.2]; exact Secs.nil _ _, hb⟩
      · have HSB := hide (section_bad wr HRD.out (Nat.le_trans hB hb.size) hrn (HT.out.below hb) he)
        have HE := hide (sct_err (HDC.out.trans (by rw [one_err j _ r he]; rfl)))
        have HPOS := hide he
        obtain ⟨e1, he1⟩ : ∃ q, oneE r = q := ⟨_, rfl⟩
        rw [he1] at HSB HE
        have hpos : e1 ≠ 0 := he1 ▸ HPOS.out
        clear he he1
        obtain ⟨n1, hn1⟩ : ∃ q, r.length = q := ⟨_, rfl⟩
        rw [hn1] at HSB ⊢
        go_wp2_with (first | (go_at_call 57; (with_reducible refine (HSB.out).mono ?_); rintro e W1 ⟨rfl, hb2⟩; replace hb := below_bl rfl hb hb2; clear hb2) | ((with_reducible refine op_alloc W1.heap.size ?_ _ zero_ts ?_); exact rfl; intro W2 hx hb3 hz3) | ((with_reducible refine op_store W1.heap.size ?_ (#[.int .u32 0, .slice none 0 0] : Array Value) ?_ _ _ hx (size_two _ _) rfl (one_two _ _ _ _) ?_); exact rfl; exact rfl; intro W3 hnew ho; replace hb3 := ho.bel _ _ (Nat.le_refl _) hb3; replace hb := below_bl rfl hb hb3; clear hnew ho hx hb3))
        go_ret2
        exact ⟨_, by rw [← HEE.out, HE.out.1]; rw [errS, if_neg hpos]; rfl, by rw [← HMM.out, HE.out.2]; exact Secs.nil _ _, hb⟩
    · obtain rfl : k = cnt := by omega
      rw [Nat.sub_self] at HDC
      have HDZ := hide (show decS k none r0 = .inr (Lk, r) by rw [HDC.out]; show comb Lk (.inr ([], r)) = _; rw [comb, List.append_nil])
      have HSS := hide HO.out.secs
      by_cases hr0 : r = []
      · have HE := hide (show sctE k r0 = 0 by rw [sctE, HDZ.out]; simp [hr0])
        have HM := hide (show sctM k r0 = Lk by rw [sctM, HDZ.out]; simp [hr0])
        subst hr0
        go_wp2
        go_ret2
        exact ⟨_, by rw [← HEE.out, HE.out]; rfl, by rw [← HMM.out, HM.out]; exact HSS.out, hb⟩
      · have HE := hide (show sctE k r0 = 3 by rw [sctE, HDZ.out]; simp [hr0])
        have HM := hide (show sctM k r0 = [] by rw [sctM, HDZ.out]; simp [hr0])
        have hrl : 0 < r.length := List.length_pos_iff.2 hr0
        generalize r.length = n1 at *
        go_wp2
        go_ret2
        exact ⟨_, by rw [← HEE.out, HE.out]; rfl, by rw [← HMM.out, HM.out]; exact Secs.nil _ _, hb⟩
end Go.Proofs.YtkahkkcbigifiaaDoor
