/-
  What the document's Program answers.
-/
import Derived.Test.YtoekcfbjdcibpaaGreatDoorJS
import Derived.Deep.CutRange
import Derived.BigQuiet
import Derived.Deep.QuietTactic
namespace Go.Proofs.YtoekcfbjdcibpaaGreatDoor
open Go.RowKit Go.Lib
set_option linter.unusedVariables false

/-- Between two rounds of the first loop. -/
def P1Rel (ls : List Ln) (lv : Value) (w : World) (nv pv av iv : Value) (wr : World) : Prop :=
  ∃ (k a : Nat) (m : Labs), iv = .int .i64 (k : Int) ∧ av = .int .i64 (a : Int) ∧ k ≤ ls.length ∧ a ≤ 4 * k ∧ m.length ≤ k ∧ placesFrom ls 0 [] = placesFrom (ls.drop k) a m ∧
    wr.ownsRow w.heap.size 95 2 lv ls.length (lineCells ls) ∧ wr.ownsRow w.heap.size 9 1 nv m.length (strC m) ∧ wr.ownsRow w.heap.size 3 1 pv m.length (intC m) ∧ Below w.heap.size w wr
def p1Left (ls : List Ln) (iv : Value) : Nat := ls.length - (intOf iv).toNat
/-- Between two rounds of the second one. -/
def P2Rel (ls : List Ln) (m : Labs) (lv nv pv : Value) (w : World) (ov iv : Value) (wr : World) : Prop :=
  ∃ (k : Nat) (acc : List Nat), iv = .int .i64 (k : Int) ∧ k ≤ ls.length ∧ acc.length ≤ k ∧ wordsD m ls [] = wordsD m (ls.drop k) acc ∧ Rows4 ls m lv nv pv w acc ov wr

set_option maxHeartbeats 1000000 in
set_option maxRecDepth 100000 in
theorem rprog_long (s : ByteArray) (hs : s.size ≤ 9223372036854775807) (hl : 65536 < s.size) (w : World) :
    Calls Tryz.prog 16 #[.string s] w fun e w' => RProg (progD s.data.toList) w e w' := by
  have hsl : s.data.toList.length = s.size := by simp
  have HP : Hid (progD s.data.toList = (0, 2, [])) := hide (by unfold progD; rw [if_neg (by omega)])
  have t0 : (s.size : Int) > 65536 := by omega
  go_enter Tryz.func16, Tryz.ntmps16
  go_wp2
  go_ret3
  rw [HP.out]
  exact rprog_nil (Below.refl _ w)
set_option maxHeartbeats 8000000 in
set_option maxRecDepth 100000 in
theorem rprog_any (s : ByteArray) (hs : s.size ≤ 3000) (w : World) :
    Calls Tryz.prog 16 #[.string s] w fun e w' => RProg (progD s.data.toList) w e w' := by
  obtain ⟨is, his, hs0, hs1, hs2⟩ := info_parts (P := Tryz.prog) (e := 9) (z := .string ⟨#[]⟩) (size := 1) (bytes := 16) (by kernel_rfl)
  obtain ⟨ii, hii, hi0, hi1, hi2⟩ := info_parts (P := Tryz.prog) (e := 3) (z := .int .i64 0) (size := 1) (bytes := 8) (by kernel_rfl)
  obtain ⟨iu, hiu, hu0, hu1, hu2⟩ := info_parts (P := Tryz.prog) (e := 48) (z := .int .u32 0) (size := 1) (bytes := 4) (by kernel_rfl)
  have hsl : s.data.toList.length = s.size := by simp
  have HF := hide (fun k m h => prog_first (s := s.data.toList) (k := k) (m := m) (by omega) h)
  have HT := hide (fun m h => prog_then (s := s.data.toList) (m := m) (by omega) h)
  have HLn := hide (rlines_any s (by omega))
  have hlen : (saidL s.data.toList).length ≤ 3001 := by have := said_len s.data.toList; omega
  have HSM := hide (fun p (hp : p ∈ saidL s.data.toList) => (show p.2.length ≤ 3000 ∧ 1 ≤ p.1 ∧ p.1 ≤ 3001 from by have := said_mem s.data.toList p hp; omega))
  replace HLn := hide (fun w => (HLn.out w).mono (fun e w' ⟨v, he, hI⟩ => (⟨v, he, hI.own, hI.bel⟩ : ∃ v, e = Ending.returned v ∧ w'.ownsRow w.heap.size 95 2 v (saidL s.data.toList).length (lineCells (saidL s.data.toList)) ∧ Below w.heap.size w w')))
  have t0 : decide ((s.size : Int) > 65536) = false := decide_eq_false (by omega)
  have t0' : decide ((65536 : Int) < (s.size : Int)) = false := decide_eq_false (by omega)
  generalize saidL s.data.toList = ls at *
  go_enter Tryz.func16, Tryz.ntmps16
  generalize hbw : ByteArray.mk #[46, 119, 111, 114, 100, 32] = bw at *
  generalize hb32 : ByteArray.mk #[32] = b32 at *
  generalize hb44 : ByteArray.mk #[44, 32] = b44 at *
  have HBw : Hid (bw.data.toList = dotWord) := hide (by rw [← hbw]; rfl)
  have HB32 : Hid (b32.data.toList = [32]) := hide (by rw [← hb32])
  have HB44 : Hid (b44.data.toList = [44, 32]) := hide (by rw [← hb44])
  have z32 : b32.size = 1 := by rw [← hb32]; rfl
  have z44 : b44.size = 2 := by rw [← hb44]; rfl
  clear hbw hb32 hb44
  go_wp2_with (go_at_call 47; (with_reducible refine (HLn.out _).mono ?_); rintro e w1 ⟨lv, rfl, hown0, hB0⟩)
  obtain ⟨la, lc, rfl⟩ := own_form hown0
  have HO0 := hide hown0
  have HB0 := hide hB0
  clear hown0 hB0 t0 t0' HLn
  go_loopw [6, 7, 8, 9] (fun nv pv av iv wr => P1Rel ls (.slice la ls.length lc) w nv pv av iv wr) (fun nv pv av iv wr => p1Left ls iv)
  case atStart => exact ⟨0, 0, [], rfl, rfl, by omega, by omega, by simp, rfl, HO0.out, World.ownsRow_nil _ _ _ _, World.ownsRow_nil _ _ _ _, HB0.out⟩
  case round =>
    obtain ⟨k, a, m, rfl, rfl, hk, ha, hm, hpl, hL, hN, hP, hB⟩ := hrel
    have HL := hide hL
    have HN := hide hN
    have HP := hide hP
    have HB := hide hB
    have HPl := hide hpl
    clear hL hN hP hB hpl HO0 HB0
    obtain ⟨na, nc, hna⟩ := own_form HN.out
    subst hna
    by_cases hlt : k < ls.length
    · obtain ⟨⟨num, tx⟩, hp⟩ : ∃ p, ls[k]? = some p := ⟨_, List.getElem?_eq_getElem hlt⟩
      obtain ⟨g, hg, hgc⟩ := own_some HL.out (by omega)
      subst hg
      obtain ⟨c1, c2⟩ := lineCells_at ls k _ hp
      replace c1 := own_at HL.out c1
      replace c2 := own_at HL.out c2
      simp only at c1 c2
      obtain ⟨htx, hn1, hn2⟩ := HSM.out _ (List.mem_of_getElem? hp)
      simp only at htx hn1 hn2
      have HDr := hide (drop_cons hp)
      have hk2 : (k : Int) * 2 = ((k * 2 : Nat) : Int) := by omega
      have hts := ba_size tx
      have HLb := hide (fun w => rlabel_any ⟨tx.toArray⟩ (by omega) w)
      rw [ba_data] at HLb
      clear hp
      cases hlab : labD tx with
      | false =>
        rw [hlab] at HLb
        have HS : Hid (placesFrom ls 0 [] = placesFrom (ls.drop (k + 1)) (a + 4) m) := hide (by rw [HPl.out, HDr.out]; exact pl_plain hlab)
        clear hlab
        go_wp2_with (go_at_call 48; (with_reducible refine (HLb.out _).mono ?_); rintro e w2 ⟨rfl, rfl⟩)
        go_roundw
        case rel => exact ⟨k + 1, a + 4, m, by go_num, by go_num, by omega, by omega, by omega, HS.out, HL.out, HN.out, HP.out, HB.out⟩
        case measure => unfold p1Left; simp only [intOf]; omega
      | true =>
        rw [hlab] at HLb
        have HLab := hide hlab
        clear hlab
        have h1 : 1 < tx.length := by
          have := HLab.out
          unfold labD at this
          simp at this
          omega
        have d0 : (0 : Int) ≤ ((ByteArray.mk tx.toArray).size : Int) - 1 := by omega
        have d1 : ((ByteArray.mk tx.toArray).size : Int) - 1 ≤ ((ByteArray.mk tx.toArray).size : Int) := by omega
        have d2 : (((ByteArray.mk tx.toArray).size : Int) - 1).toNat = (ByteArray.mk tx.toArray).size - 1 := by omega
        have HDL := hide (drop_last ⟨tx.toArray⟩)
        go_wp2_with (go_at_call 48; (with_reducible refine (HLb.out _).mono ?_); rintro e w2 ⟨rfl, rfl⟩)
        go_quiet (fail)
        have HX : Hid ((ByteArray.mk tx.toArray).extract 0 (tx.length - 1) = ⟨tx.dropLast.toArray⟩) := hide (by
          have e := HDL.out
          rw [hts] at e
          rw [← ba_list ((ByteArray.mk tx.toArray).extract 0 (tx.length - 1)), e])
        clear HDL
        generalize (ByteArray.mk tx.toArray).extract 0 (tx.length - 1) = nb at *
        go_wp2
        go_loop [11] (fun jv => ∃ j : Nat, j ≤ m.length ∧ jv = .int .i64 (j : Int) ∧ lookL (m.take j) tx.dropLast = none) (fun jv => m.length - (intOf jv).toNat)
        case atStart => exact ⟨0, by omega, rfl, rfl⟩
        case round =>
          obtain ⟨j, hj, rfl, hno⟩ := hrel
          have HNo := hide hno
          clear hno
          by_cases hjl : j < m.length
          · obtain ⟨⟨kx, pl⟩, hq⟩ : ∃ q, m[j]? = some q := ⟨_, List.getElem?_eq_getElem hjl⟩
            obtain ⟨ng, hng, hngc⟩ := own_some HN.out (by omega)
            subst hng
            have c3 := own_at (own_dn HN.out nq) (strC_at hq)
            simp only at c3
            have hlk := look_take_succ hq tx.dropLast HNo.out
            simp only at hlk
            have hse : (kx == nb.toList) = decide (kx = tx.dropLast) := by rw [HX.out, ByteArray.toList_eq, ba_data, Bool.eq_iff_iff, beq_iff_eq, decide_eq_true_eq]
            by_cases hkx : kx = tx.dropLast
            · rw [decide_eq_true hkx] at hse
              rw [if_pos hkx] at hlk
              have HA : Hid (progD s.data.toList = (num, 6, [])) := hide (HF.out num m (by rw [HPl.out, HDr.out]; exact pl_twice2 HLab.out (look_hit hlk)))
              clear hlk hkx hq
              go_wp2
              go_quiet (fail)
              go_wp2
              go_ret3
              rw [HA.out]
              exact rprog_nil (below_dw (below_dw HB.out _) _)
            · rw [decide_eq_false hkx] at hse
              rw [if_neg hkx] at hlk
              have HL2 := hide hlk
              clear hlk hkx hq
              go_wp2
              go_round
              case rel => exact ⟨j + 1, by omega, by go_num, HL2.out⟩
              case measure => simp [intOf]; omega
          · obtain rfl : j = m.length := by omega
            have HNone : Hid (lookL m tx.dropLast = none) := hide (by have := HNo.out; rwa [List.take_length] at this)
            have HS : Hid (placesFrom ls 0 [] = placesFrom (ls.drop (k + 1)) a (m ++ [(tx.dropLast, a)])) := hide (by rw [HPl.out, HDr.out]; exact pl_new HLab.out HNone.out)
            clear c1 c2
            go_wp2_with (first | (at_builtin; refine wpList_append_own _ rfl _ _ 51 rfl w.heap.size 9 is (.string ⟨#[]⟩) 1 16 Tryz.underlying51 his hs0 hs1 hs2 rfl (by decide) _ _ _ rfl ((own_dn HN.out nq).alloc _) ⟨_, 0, none⟩ 1 1 [.string nb] rfl rfl (cell_one_new _ _ _) (by simp [Value.oneCell']) (by unfold maxLen; omega) (by omega) (by (have := HB.out.size; simp; omega)) ?_; intro v4 w4 hown4 hgrow4 _; have HN4 := hide hown4; have HP4 := hide (kept_two ((own_dn HP.out nq).alloc _) ((own_dn HN.out nq).alloc _) (by decide) hgrow4); have HL4 := hide (kept_two ((own_dn HL.out nq).alloc _) ((own_dn HN.out nq).alloc _) (by decide) hgrow4); have HB4 := hide (below_grown (below_al (below_dw HB.out nq) _) ((own_dn HN.out nq).alloc _) hgrow4); clear hown4 hgrow4) | (at_builtin; refine wpList_append_own _ rfl _ _ 47 rfl w.heap.size 3 ii (.int .i64 0) 1 8 Tryz.underlying47 hii hi0 hi1 hi2 rfl (by decide) _ _ _ rfl (HP4.out.alloc _) ⟨_, 0, none⟩ 1 1 [.int .i64 (a : Int)] rfl rfl (cell_one_new _ _ _) (by simp [Value.oneCell']) (by unfold maxLen; omega) (by omega) (by (have := HB4.out.size; simp; omega)) ?_; intro v6 w6 hown6 hgrow6 _))
            go_roundw
            case rel =>
              have hX := HP4.out.alloc (.cells #[.int .i64 (a : Int)] 3)
              refine ⟨k + 1, a, m ++ [(tx.dropLast, a)], by go_num, rfl, by omega, by omega, by (simp; omega), HS.out, kept_two (HL4.out.alloc _) hX (by decide) hgrow6, ?_, ?_, below_grown (below_al HB4.out _) hX hgrow6⟩
              · have := kept_two (HN4.out.alloc (.cells #[.int .i64 (a : Int)] 3)) hX (by decide) hgrow6
                rw [HX.out] at this
                rw [strC_snoc, List.length_append]
                exact this
              · rw [intC_snoc, List.length_append]
                exact hown6
            case measure => unfold p1Left; simp only [intOf]; omega
    · obtain rfl : k = ls.length := by omega
      have hend : placesFrom ls 0 [] = (none, m) := by have := HPl.out; rwa [List.drop_length, placesFrom] at this
      have HD := hide (places_dist ls 0 [] m hend dist_nil)
      have HMb := hide (fun x p h => (show p ≤ 12004 from by have := places_bound ls 0 [] m hend (fun _ _ h => by cases h) x p h; omega))
      have HR := hide (HT.out m hend)
      clear hend HPl
      obtain ⟨pa, pc, hpa⟩ := own_form HP.out
      subst hpa
      have HR4 := hide (show Rows4 ls m (.slice la ls.length lc) (.slice na m.length nc) (.slice pa m.length pc) w [] (.slice none 0 0) wr from ⟨HL.out, HN.out, HP.out, World.ownsRow_nil _ _ _ _, HB.out⟩)
      have hml : m.length ≤ 3001 := by omega
      clear HL HN HP HB hk ha hm
      go_wp2
      obtain ⟨wo, rfl⟩ : ∃ wo : World, wo = wr := ⟨_, rfl⟩
      go_loopw [12, 13] (fun ov iv wq => P2Rel ls m (.slice la ls.length lc) (.slice na m.length nc) (.slice pa m.length pc) w ov iv wq) (fun ov iv wq => p1Left ls iv)
      case atStart => exact ⟨0, [], rfl, by omega, by simp, rfl, HR4.out⟩
      case round =>
        clear HR4
        obtain ⟨k, acc, rfl, hk, hacc, hwd, hR⟩ := hrel
        have HW := hide hwd
        have HR4 := hide hR
        clear hwd hR
        obtain ⟨oa, oc, hoa⟩ := own_form HR4.out.O
        subst hoa
        by_cases hlt2 : k < ls.length
        · obtain ⟨⟨num, tx⟩, hp⟩ : ∃ p, ls[k]? = some p := ⟨_, List.getElem?_eq_getElem hlt2⟩
          obtain ⟨g, hg, hgc⟩ := own_some HR4.out.L (by omega)
          subst hg
          obtain ⟨c1, c2⟩ := lineCells_at ls k _ hp
          have HC1 := hide c1
          replace c1 := own_at HR4.out.L c1
          replace c2 := own_at HR4.out.L c2
          simp only at c1 c2
          obtain ⟨htx, hn1, hn2⟩ := HSM.out _ (List.mem_of_getElem? hp)
          simp only at htx hn1 hn2
          have HDr := hide (drop_cons hp)
          have hk2 : (k : Int) * 2 = ((k * 2 : Nat) : Int) := by omega
          have hts := ba_size tx
          have HLb := hide (fun w => rlabel_any ⟨tx.toArray⟩ (by omega) w)
          rw [ba_data] at HLb
          clear hp
          cases hlab : labD tx with
          | true =>
            rw [hlab] at HLb
            have HS : Hid (wordsD m ls [] = wordsD m (ls.drop (k + 1)) acc) := hide (by rw [HW.out, HDr.out]; exact words_skip hlab)
            clear hlab
            go_wp2_with ((go_at_call 48; (with_reducible refine (HLb.out _).mono ?_); rintro e wr ⟨rfl, rfl⟩))
            go_roundw
            case rel => exact ⟨k + 1, acc, by go_num, by omega, by omega, HS.out, HR4.out⟩
            case measure => unfold p1Left; simp only [intOf]; omega
          | false =>
            rw [hlab] at HLb
            have HLab := hide hlab
            clear hlab
            by_cases hdot : 6 < tx.length ∧ tx.take 6 = dotWord
            · as_aux_lemma =>
                have hd6 := hdot.1
                have t6 : (((tx.length : Nat) : Int) > 6) := by omega
                have t6' : (6 : Int) ≤ ((tx.length : Nat) : Int) := by omega
                have e6 : (((ByteArray.mk tx.toArray).extract 0 6).toList == bw.toList) = true := by rw [str_eq, HBw.out, ext_to, ba_data, decide_eq_true hdot.2]
                have e6' : (tx.take 6 == bw.toList) = true := by rw [ByteArray.toList_eq, HBw.out, hdot.2]; simp
                have HPs := hide (fun w => refparse_any ((ByteArray.mk tx.toArray).extract 6 tx.length) (by simp; omega) w)
                have HLi := hide (line_dot (k := acc.length) (m := m) hdot)
                rw [← ext_from] at HLi
                clear hdot
                generalize parseV ((ByteArray.mk tx.toArray).extract 6 tx.length) = pv6 at *
                generalize parseE ((ByteArray.mk tx.toArray).extract 6 tx.length) = pe6 at *
                by_cases hpe : pe6 = 0
                · subst hpe
                  have HS : Hid (wordsD m ls [] = wordsD m (ls.drop (k + 1)) (acc ++ [pv6])) := hide (by rw [HW.out, HDr.out]; exact words_one HLab.out (by rw [HLi.out, if_pos rfl]))
                  go_wp2_with (first | (go_at_call 48; (with_reducible refine (HLb.out _).mono ?_); rintro e wr ⟨rfl, rfl⟩) | (go_at_call 49; (with_reducible refine (HPs.out _).mono ?_); rintro e w3 ⟨rfl, n1, rfl⟩) | (at_builtin; refine wpList_append_own _ rfl _ _ 39 rfl w.heap.size 48 iu (.int .u32 0) 1 4 Tryz.underlying39 hiu hu0 hu1 hu2 rfl (by decide) _ _ _ rfl (Rows4.O ((HR4.out.dn n1).al _)) ⟨_, 0, none⟩ 1 1 [.int .u32 (pv6 : Int)] rfl rfl (cell_one_new _ _ _) (by simp [Value.oneCell']) (by unfold maxLen; omega) (by omega) (Below.size (Rows4.B ((HR4.out.dn n1).al _))) ?_; intro v9 w9 hown9 hgrow9 _))
                  go_roundw
                  case rel => exact ⟨k + 1, acc ++ [pv6], by go_num, by omega, by (simp; omega), HS.out, ((HR4.out.dn n1).al _).app hown9 hgrow9⟩
                  case measure => unfold p1Left; simp only [intOf]; omega
                · have HA : Hid (wordsD m ls [] = (num, 3, [])) := hide (by rw [HW.out, HDr.out]; exact words_bad HLab.out (by rw [HLi.out, if_neg hpe]))
                  have tpe : (pe6 != 0) = true := by simpa using hpe
                  go_wp2_with (first | (go_at_call 48; (with_reducible refine (HLb.out _).mono ?_); rintro e wr ⟨rfl, rfl⟩) | (go_at_call 49; (with_reducible refine (HPs.out _).mono ?_); rintro e w3 ⟨rfl, n1, rfl⟩))
                  go_quiet (fail)
                  go_wp2
                  go_ret3
                  rw [HR.out, HA.out]
                  exact rprog_nil (below_dw (below_dw HR4.out.B _) _)
            · have HNd := hide hdot
              clear hdot
              as_aux_lemma =>
                go_upto_region 26 with ((go_at_call 48; (with_reducible refine (HLb.out _).mono ?_); rintro e wr ⟨rfl, rfl⟩))
                go_cut [106] from 86 to 232 (fun s106 wx => s106 = .bool false ∧ wx = wr)
                case first =>
                  by_cases h6 : 6 < tx.length
                  · have t6 : (((tx.length : Nat) : Int) > 6) := by omega
                    have t6' : (6 : Int) ≤ ((tx.length : Nat) : Int) := by omega
                    have hd6 : ¬ tx.take 6 = dotWord := fun e => HNd.out ⟨h6, e⟩
                    have e6 : (((ByteArray.mk tx.toArray).extract 0 6).toList == bw.toList) = false := by rw [str_eq, HBw.out, ext_to, ba_data, decide_eq_false hd6]
                    have e6' : (tx.take 6 == bw.toList) = false := by rw [ByteArray.toList_eq, HBw.out, beq_eq_false_iff_ne]; exact hd6
                    go_wp2_with (fail)
                    go_meet
                    case rel => exact ⟨rfl, rfl⟩
                  · have t6 : decide (((tx.length : Nat) : Int) > 6) = false := decide_eq_false (by omega)
                    have t6' : decide ((6 : Int) < ((tx.length : Nat) : Int)) = false := decide_eq_false (by omega)
                    go_wp2_with (fail)
                    go_meet
                    case rel => exact ⟨rfl, rfl⟩
                case rest =>
                  obtain ⟨rfl, rfl⟩ := hcut
                  have HPa := hide (fun w => rparts_any ⟨tx.toArray⟩ (by omega) w)
                  go_upto_region 32 with (go_at_call 36; (with_reducible refine (HPa.out _).mono ?_); rintro e w4 ⟨v4, rfl, ⟨nm, xv, l, rfl, hnm, hl, hox, hll, hb4⟩⟩)
                  obtain ⟨xa, xc, hxv⟩ := own_form hox
                  subst hxv
                  replace hnm : nm.data.toList = (cut tx [32]).1 := hnm
                  replace hl : l.map (fun b : ByteArray => b.data.toList) = operD tx := hl
                  replace hll : l.length ≤ tx.length := hll
                  obtain ⟨c, fe, kd, HFi, HKi, htk⟩ := find_kind nm tx hnm
                  replace HFi := hide HFi
                  replace HKi := hide HKi
                  have HNmT := hide hnm
                  have HSz : Hid (∀ x ∈ l, x.size ≤ 5000) := hide (fun x hx => by
                    have hm := List.mem_map_of_mem (f := fun b : ByteArray => b.data.toList) hx
                    rw [hl] at hm
                    have h3 := operD_mem_le hm
                    have h4 : x.data.toList.length = x.size := by simp
                    omega)
                  have HLen2 : Hid (l.length = (operD tx).length) := hide (by rw [← hl]; simp)
                  have HL5 := hide hl
                  have hll2 : l.length ≤ 3000 := by omega
                  clear hnm hl hll
                  go_upto_region 34 with (first | (go_at_call 37; (with_reducible refine (HFi.out _).mono ?_); rintro e w5 ⟨rfl, hb5⟩) | (go_at_call 29; (with_reducible refine (HKi.out _).mono ?_); rintro e w5 ⟨rfl, rfl⟩))
                  have HRc := hide ((HR4.out.bl hb4).bl hb5)
                  obtain ⟨xb, HX5⟩ : ∃ xb, Hid (w5.ownsRow xb 9 1 (.slice xa l.length xc) l.length (strsOf l)) := ⟨_, hide (own_keeps hox hb5)⟩
                  clear hox hb4 hb5 HR4 c1 c2
                  go_cut [159] from 86 to 232 (fun s159 wx => s159 = .bool (takesD tx) ∧ wx = w5)
                  case first =>
                    as_aux_lemma =>
                      by_cases hfe : fe = 0
                      · subst hfe
                        by_cases k66 : kd = 66
                        · subst k66
                          by_cases hl0 : 0 < l.length
                          · obtain ⟨y, hy, hlast, hemp⟩ := last_txt hl0
                            obtain ⟨xg, hxg, hxgc⟩ := own_some HX5.out hl0
                            subst hxg
                            have c5 := own_at HX5.out (strsOf_at hy)
                            have f0 : (0 : Int) < (l.length : Int) := by omega
                            have f0' : ((l.length : Int) > 0) := by omega
                            have f1 : (0 : Int) ≤ (l.length : Int) - 1 := by omega
                            have f2 : (l.length : Int) - 1 < (l.length : Int) := by omega
                            have f3 : ((l.length : Int) - 1).toNat = l.length - 1 := by omega
                            have hysz : y.size ≤ 5000 := HSz.out y (List.mem_of_getElem? hy)
                            have HNm := hide (fun w => rname_any y (by omega) w)
                            have HTk : Hid (takesD tx = nameD y.data.toList) := hide (by rw [htk, ← HL5.out, hlast, hemp]; simp)
                            clear hy hlast hemp
                            generalize nameD y.data.toList = ny at *
                            go_wp2_with ((go_at_call 50; (with_reducible refine (HNm.out _).mono ?_); rintro e w8 ⟨rfl, rfl⟩))
                            go_meet
                            case rel => exact ⟨by rw [HTk.out], rfl⟩
                          · have hl1 : l = [] := List.length_eq_zero_iff.1 (by omega)
                            subst hl1
                            have HTk : Hid (takesD tx = false) := hide (by rw [htk, ← HL5.out]; simp)
                            go_wp2_with (fail)
                            go_meet
                            case rel => exact ⟨by rw [HTk.out], rfl⟩
                        · have k1 : (((kd : Nat) : Int) == 66) = false := by simp; omega
                          by_cases k74 : kd = 74
                          · subst k74
                            by_cases hl0 : 0 < l.length
                            · obtain ⟨y, hy, hlast, hemp⟩ := last_txt hl0
                              obtain ⟨xg, hxg, hxgc⟩ := own_some HX5.out hl0
                              subst hxg
                              have c5 := own_at HX5.out (strsOf_at hy)
                              have f0 : (0 : Int) < (l.length : Int) := by omega
                              have f0' : ((l.length : Int) > 0) := by omega
                              have f1 : (0 : Int) ≤ (l.length : Int) - 1 := by omega
                              have f2 : (l.length : Int) - 1 < (l.length : Int) := by omega
                              have f3 : ((l.length : Int) - 1).toNat = l.length - 1 := by omega
                              have hysz : y.size ≤ 5000 := HSz.out y (List.mem_of_getElem? hy)
                              have HNm := hide (fun w => rname_any y (by omega) w)
                              have HTk : Hid (takesD tx = nameD y.data.toList) := hide (by rw [htk, ← HL5.out, hlast, hemp]; simp)
                              clear hy hlast hemp
                              generalize nameD y.data.toList = ny at *
                              go_wp2_with ((go_at_call 50; (with_reducible refine (HNm.out _).mono ?_); rintro e w8 ⟨rfl, rfl⟩))
                              go_meet
                              case rel => exact ⟨by rw [HTk.out], rfl⟩
                            · have hl1 : l = [] := List.length_eq_zero_iff.1 (by omega)
                              subst hl1
                              have HTk : Hid (takesD tx = false) := hide (by rw [htk, ← HL5.out]; simp)
                              go_wp2_with (fail)
                              go_meet
                              case rel => exact ⟨by rw [HTk.out], rfl⟩
                          · have k2 : (((kd : Nat) : Int) == 74) = false := by simp; omega
                            have HTk : Hid (takesD tx = false) := hide (by rw [htk]; simp [k66, k74])
                            go_wp2_with (fail)
                            go_meet
                            case rel => exact ⟨by rw [HTk.out], rfl⟩
                      · have k1 : (fe == 0) = false := by simpa using hfe
                        have HTk : Hid (takesD tx = false) := hide (by rw [htk]; simp [hfe])
                        go_wp2_with (fail)
                        go_meet
                        case rel => exact ⟨by rw [HTk.out], rfl⟩
                  case rest =>
                    obtain ⟨rfl, rfl⟩ := hcut
                    cases htk2 : takesD tx with
                    | false =>
                      have HLi := hide (line_plain (k := acc.length) (m := m) HNd.out htk2)
                      have HPr := hide (fun w => rparse_any ⟨tx.toArray⟩ (by omega) w)
                      rw [ba_data] at HPr
                      clear htk htk2 HFi HKi HX5
                      as_aux_lemma =>
                        cases hdp : dParse (tx) with
                        | none =>
                          have HA : Hid (wordsD m ls [] = (num, 3, [])) := hide (by rw [HW.out, HDr.out]; exact words_bad HLab.out (by rw [HLi.out, hdp]; rfl))
                          rw [hdp] at HPr
                          simp only [parseV8] at HPr
                          clear hdp
                          go_upto_region 51 with (first | (go_at_call 14; (with_reducible refine (HPr.out _).mono ?_); rintro e w6 ⟨rfl, hb6⟩; replace HRc := hide (HRc.out.bl hb6); clear hb6) | ((with_reducible refine al_ri w6.heap.size ?_ ?_); exact rfl; intro W8 hr8 hb8 hz8) | ((with_reducible refine st_ri w6.heap.size _ zeroI8 hr8 ?_ ?_ ?_); exact rfl; exact rfl; intro W9 hr9 ho9; replace HRc := hide (HRc.out.bl (ho9.bel _ _ (Nat.le_refl _) hb8))))
                          have c9 := own_at HRc.out.L HC1.out
                          go_quiet (fail)
                          go_wp2
                          go_ret3
                          rw [HR.out, HA.out]
                          exact rprog_nil (below_dw HRc.out.B _)
                        | some ix =>
                          have HS : Hid (wordsD m ls [] = wordsD m (ls.drop (k + 1)) (acc ++ [encW ix])) := hide (by rw [HW.out, HDr.out]; exact words_one HLab.out (by rw [HLi.out, hdp]; rfl))
                          rw [hdp] at HPr
                          simp only [parseV8] at HPr
                          clear hdp
                          have HEn := hide (fun w => rencode_all ix w)
                          generalize encW ix = ew at *
                          generalize encN ix = en at *
                          go_wp2_with (first | (go_at_call 14; (with_reducible refine (HPr.out _).mono ?_); rintro e w6 ⟨rfl, hb6⟩; replace HRc := hide (HRc.out.bl hb6); clear hb6) | ((with_reducible refine al_ri w6.heap.size ?_ ?_); exact rfl; intro W8 hr8 hb8 hz8) | ((with_reducible refine st_ri w6.heap.size _ ix hr8 ?_ ?_ ?_); exact rfl; exact rfl; intro W9 hr9 ho9; replace HRc := hide (HRc.out.bl (ho9.bel _ _ (Nat.le_refl _) hb8))) | ((with_reducible refine ld_ri w6.heap.size ix hr9 ?_ ?_); exact rfl) | (go_at_call 51; (with_reducible refine (HEn.out _).mono ?_); rintro e w7 ⟨rfl, hb7⟩; replace HRc := hide (HRc.out.bl hb7); clear hb7) | (at_builtin; refine wpList_append_own _ rfl _ _ 39 rfl w.heap.size 48 iu (.int .u32 0) 1 4 Tryz.underlying39 hiu hu0 hu1 hu2 rfl (by decide) _ _ _ rfl (Rows4.O (HRc.out.al _)) ⟨_, 0, none⟩ 1 1 [.int .u32 (ew : Int)] rfl rfl (cell_one_new _ _ _) (by simp [Value.oneCell']) (by unfold maxLen; omega) (by omega) (Below.size (Rows4.B (HRc.out.al _))) ?_; intro v9 w9 hown9 hgrow9 _))
                          go_roundw
                          case rel => exact ⟨k + 1, acc ++ [ew], by go_num, by omega, by (simp; omega), HS.out, (HRc.out.al _).app hown9 hgrow9⟩
                          case measure => unfold p1Left; simp only [intOf]; omega
                    | true =>
                      as_aux_lemma =>
                        have hx0 : operD tx ≠ [] := fun e => by (rw [htk, e] at htk2; simp at htk2)
                        have hl0 : 0 < l.length := by rw [HLen2.out]; exact List.length_pos_iff.2 hx0
                        obtain ⟨y, hy, hlast, hemp⟩ := last_txt hl0
                        obtain ⟨xg, hxg, hxgc⟩ := own_some HX5.out hl0
                        subst hxg
                        have HLi := hide (line_takes (k := acc.length) (m := m) HNd.out htk2)
                        rw [← HL5.out, hlast] at HLi
                        have HY := hide hy
                        have HSl := hide (soFar_le hx0)
                        have f1 : (0 : Int) ≤ (l.length : Int) - 1 := by omega
                        have f2 : (l.length : Int) - 1 < (l.length : Int) := by omega
                        have f3 : ((l.length : Int) - 1).toNat = l.length - 1 := by omega
                        have HTo := hide (toD_look m y.data.toList HD.out)
                        clear htk htk2 HFi HKi hy hlast hemp hx0
                        go_wp2_with (fail)
                        go_loopw [22, 23] (fun tv jv wq => ∃ j : Nat, j ≤ m.length ∧ jv = .int .i64 (j : Int) ∧ tv = .int .i64 (toD (m.take j) y.data.toList) ∧ Rows4 ls m (.slice (some ⟨g, 0, none⟩) ls.length lc) (.slice na m.length nc) (.slice pa m.length pc) w acc (.slice oa acc.length oc) wq ∧ wq.ownsRow xb 9 1 (.slice (some ⟨xg, 0, none⟩) l.length xc) l.length (strsOf l)) (fun tv jv wq => m.length - (intOf jv).toNat)
                        case atStart => exact ⟨0, by omega, rfl, rfl, HRc.out, HX5.out⟩
                        case round =>
                          clear HRc HX5
                          obtain ⟨j, hj, rfl, rfl, hRq, hXq⟩ := hrel
                          have HRc := hide hRq
                          have HX5 := hide hXq
                          clear hRq hXq
                          by_cases hjl : j < m.length
                          · obtain ⟨⟨kx, pl⟩, hq⟩ : ∃ q, m[j]? = some q := ⟨_, List.getElem?_eq_getElem hjl⟩
                            obtain ⟨ng, hng, hngc⟩ := own_some HRc.out.N (by omega)
                            subst hng
                            obtain ⟨pg, hpg, hpgc⟩ := own_some HRc.out.P (by omega)
                            subst hpg
                            have c3 := own_at HRc.out.N (strC_at hq)
                            have c4 := own_at HRc.out.P (intC_at hq)
                            have c5 := own_at HX5.out (strsOf_at HY.out)
                            simp only at c3 c4
                            have hto := toD_take hq y.data.toList
                            simp only at hto
                            have hse : (kx == y.toList) = decide (kx = y.data.toList) := by rw [ByteArray.toList_eq, Bool.eq_iff_iff, beq_iff_eq, decide_eq_true_eq]
                            by_cases hkx : kx = y.data.toList
                            · rw [decide_eq_true hkx] at hse
                              rw [if_pos hkx] at hto
                              have HTo2 := hide hto
                              clear hto hkx hq
                              go_wp2
                              go_quiet (fail)
                              go_wp2
                              go_roundw
                              case rel => exact ⟨j + 1, by omega, by go_num, by rw [HTo2.out], HRc.out.dn _, own_dn HX5.out _⟩
                              case measure => simp [intOf]; omega
                            · rw [decide_eq_false hkx] at hse
                              rw [if_neg hkx] at hto
                              have HTo2 := hide hto
                              clear hto hkx hq
                              go_wp2
                              go_quiet (fail)
                              go_wp2
                              go_roundw
                              case rel => exact ⟨j + 1, by omega, by go_num, by rw [HTo2.out], HRc.out.dn _, own_dn HX5.out _⟩
                              case measure => simp [intOf]; omega
                          · obtain rfl : j = m.length := by omega
                            have HT2 := HTo.out
                            rw [← List.take_length (l := m)] at HT2
                            cases hlk : lookL m y.data.toList with
                            | none =>
                              have HA : Hid (wordsD m ls [] = (num, 3, [])) := hide (by rw [HW.out, HDr.out]; exact words_bad HLab.out (by rw [HLi.out, hlk]))
                              have e1 : toD (m.take m.length) y.data.toList = -1 := by rw [List.take_length, HTo.out, hlk]
                              rw [e1]
                              clear e1 HT2 hlk
                              have c9 := own_at HRc.out.L HC1.out
                              go_wp2
                              go_quiet (fail)
                              go_wp2
                              go_ret3
                              rw [HR.out, HA.out]
                              exact rprog_nil (below_dw HRc.out.B _)
                            | some p =>
                              have hpb := HMb.out _ _ hlk
                              have e1 : toD (m.take m.length) y.data.toList = (p : Int) := by rw [List.take_length, HTo.out, hlk]
                              rw [e1]
                              have HLi2 : Hid (lineD tx acc.length m = (dParse (headD tx ++ itoa ((p : Int) - 4 * (acc.length : Int)))).map encW) := hide (by rw [HLi.out, hlk, show (p : Int) - 4 * (acc.length : Int) = (p : Int) - (acc.length : Int) * 4 by omega])
                              clear e1 HT2 hlk HTo HLi
                              have e2 : decide ((p : Int) < 0) = false := decide_eq_false (by omega)
                              have hnsz : nm.size ≤ 3000 := by
                                have h1 : nm.data.toList.length = nm.size := by simp
                                have h2 := (cut_len tx 32).1
                                rw [HNmT.out] at h1
                                omega
                              go_wp2
                              go_loop [14, 24] (fun tv jv => ∃ (j : Nat) (b : ByteArray), jv = .int .i64 (j : Int) ∧ j + 1 ≤ l.length ∧ tv = .string b ∧ b.data.toList = soFar tx j) (fun tv jv => l.length - (intOf jv).toNat)
                              case atStart => exact ⟨0, nm ++ b32, rfl, by omega, rfl, by rw [ba_app, HNmT.out, HB32.out]; rfl⟩
                              case round =>
                                obtain ⟨j, b, rfl, hj1, rfl, hbd⟩ := hrel
                                have HBd := hide hbd
                                clear hbd
                                have hbsz : b.size ≤ 3000 := by
                                  have h1 : b.data.toList.length = b.size := by simp
                                  have h2 := HSl.out j (by have := HLen2.out; omega)
                                  rw [HBd.out] at h1
                                  omega
                                by_cases hj2 : j + 1 < l.length
                                · obtain ⟨xj, hxj⟩ : ∃ x, l[j]? = some x := ⟨_, List.getElem?_eq_getElem (by omega)⟩
                                  have c6 := own_at HX5.out (strsOf_at hxj)
                                  have hxsz := HSz.out xj (List.mem_of_getElem? hxj)
                                  have HSt : Hid ((b ++ xj ++ b44).data.toList = soFar tx (j + 1)) := hide (by
                                    have h3 : (operD tx)[j]? = some xj.data.toList := by rw [← HL5.out, List.getElem?_map, hxj]; rfl
                                    rw [ba_app, ba_app, HBd.out, HB44.out, soFar_step h3])
                                  clear hxj
                                  go_wp2
                                  go_round
                                  case rel => exact ⟨j + 1, b ++ xj ++ b44, by go_num, by omega, rfl, HSt.out⟩
                                  case measure => simp [intOf]; omega
                                · have e3 : decide ((j : Int) + 1 < (l.length : Int)) = false := decide_eq_false (by omega)
                                  have HHd : Hid (b.data.toList = headD tx) := hide (by rw [HBd.out, ← soFar_end, ← HLen2.out]; congr 1; omega)
                                  have hz0 : -100000 ≤ (p : Int) - 4 * (acc.length : Int) := by omega
                                  have hz1 : (p : Int) - 4 * (acc.length : Int) ≤ 100000 := by omega
                                  have HDc := hide (fun w => rdec_any ((p : Int) - 4 * (acc.length : Int)) (by omega) (by omega) w)
                                  have hisz := itoa_len hz0 hz1
                                  have hisz2 := ba_size (itoa ((p : Int) - 4 * (acc.length : Int)))
                                  have HLi := hide HLi2.out
                                  have HTx : Hid ((b ++ ⟨(itoa ((p : Int) - 4 * (acc.length : Int))).toArray⟩ : ByteArray).data.toList = headD tx ++ itoa ((p : Int) - 4 * (acc.length : Int))) := hide (by rw [ba_app, HHd.out])
                                  have HPr := hide (fun w => rparse_any (b ++ ⟨(itoa ((p : Int) - 4 * (acc.length : Int))).toArray⟩) (by (rw [ba_app_size]; omega)) w)
                                  rw [HTx.out] at HPr
                                  clear HLi2 HTx HHd HBd hz0 hz1
                                  generalize itoa ((p : Int) - 4 * (acc.length : Int)) = iz at *
                                  go_upto_region 49 with (go_at_call 31; (with_reducible refine (HDc.out _).mono ?_); rintro e wd ⟨rfl, rfl⟩)
                                  as_aux_lemma =>
                                    cases hdp : dParse (headD tx ++ iz) with
                                    | none =>
                                      have HA : Hid (wordsD m ls [] = (num, 3, [])) := hide (by rw [HW.out, HDr.out]; exact words_bad HLab.out (by rw [HLi.out, hdp]; rfl))
                                      rw [hdp] at HPr
                                      simp only [parseV8] at HPr
                                      clear hdp
                                      go_upto_region 51 with (first | (go_at_call 14; (with_reducible refine (HPr.out _).mono ?_); rintro e w6 ⟨rfl, hb6⟩; replace HRc := hide (HRc.out.bl hb6); clear hb6) | ((with_reducible refine al_ri w6.heap.size ?_ ?_); exact rfl; intro W8 hr8 hb8 hz8) | ((with_reducible refine st_ri w6.heap.size _ zeroI8 hr8 ?_ ?_ ?_); exact rfl; exact rfl; intro W9 hr9 ho9; replace HRc := hide (HRc.out.bl (ho9.bel _ _ (Nat.le_refl _) hb8))))
                                      have c9 := own_at HRc.out.L HC1.out
                                      go_quiet (fail)
                                      go_wp2
                                      go_ret3
                                      rw [HR.out, HA.out]
                                      exact rprog_nil (below_dw HRc.out.B _)
                                    | some ix =>
                                      have HS : Hid (wordsD m ls [] = wordsD m (ls.drop (k + 1)) (acc ++ [encW ix])) := hide (by rw [HW.out, HDr.out]; exact words_one HLab.out (by rw [HLi.out, hdp]; rfl))
                                      rw [hdp] at HPr
                                      simp only [parseV8] at HPr
                                      clear hdp
                                      have HEn := hide (fun w => rencode_all ix w)
                                      generalize encW ix = ew at *
                                      generalize encN ix = en at *
                                      go_wp2_with (first | (go_at_call 14; (with_reducible refine (HPr.out _).mono ?_); rintro e w6 ⟨rfl, hb6⟩; replace HRc := hide (HRc.out.bl hb6); clear hb6) | ((with_reducible refine al_ri w6.heap.size ?_ ?_); exact rfl; intro W8 hr8 hb8 hz8) | ((with_reducible refine st_ri w6.heap.size _ ix hr8 ?_ ?_ ?_); exact rfl; exact rfl; intro W9 hr9 ho9; replace HRc := hide (HRc.out.bl (ho9.bel _ _ (Nat.le_refl _) hb8))) | ((with_reducible refine ld_ri w6.heap.size ix hr9 ?_ ?_); exact rfl) | (go_at_call 51; (with_reducible refine (HEn.out _).mono ?_); rintro e w7 ⟨rfl, hb7⟩; replace HRc := hide (HRc.out.bl hb7); clear hb7) | (at_builtin; refine wpList_append_own _ rfl _ _ 39 rfl w.heap.size 48 iu (.int .u32 0) 1 4 Tryz.underlying39 hiu hu0 hu1 hu2 rfl (by decide) _ _ _ rfl (Rows4.O (HRc.out.al _)) ⟨_, 0, none⟩ 1 1 [.int .u32 (ew : Int)] rfl rfl (cell_one_new _ _ _) (by simp [Value.oneCell']) (by unfold maxLen; omega) (by omega) (Below.size (Rows4.B (HRc.out.al _))) ?_; intro v9 w9 hown9 hgrow9 _))
                                      go_roundw
                                      case rel => exact ⟨k + 1, acc ++ [ew], by go_num, by omega, by (simp; omega), HS.out, (HRc.out.al _).app hown9 hgrow9⟩
                                      case measure => unfold p1Left; simp only [intOf]; omega
        · obtain rfl : k = ls.length := by omega
          have HS : Hid (wordsD m ls [] = (0, 0, acc)) := hide (by rw [HW.out, List.drop_length, wordsD])
          go_wp2
          go_ret3
          rw [HR.out, HS.out]
          exact ⟨⟨_, rfl, HR4.out.O, HR4.out.B⟩⟩
end Go.Proofs.YtoekcfbjdcibpaaGreatDoor
