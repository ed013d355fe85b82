/-
  What the document's Parse answers.
-/
import Derived.Test.YtoekcfbjdcibpaaGreatDoorJE
namespace Go.Proofs.YtoekcfbjdcibpaaGreatDoor
open Go.RowKit Go.Lib
set_option linter.unusedVariables false

theorem reg_some (x : ByteArray) (hx : x.size ≤ 5000) (m : Int) (h : regD x.data.toList = some m) (w : World) :
    Calls Tryz.prog 38 #[.string x] w fun e w' => e = .returned (.tuple #[.int .i64 m, .bool true]) ∧ w' = w :=
  (rreg_any x (by omega) w).mono fun e w' ⟨⟨v, he, ⟨n, hv, hn⟩⟩, hw⟩ => ⟨by rw [he, hv, h, hn m h]; rfl, hw⟩
theorem reg_none (x : ByteArray) (hx : x.size ≤ 5000) (h : regD x.data.toList = none) (w : World) :
    Calls Tryz.prog 38 #[.string x] w fun e w' => (∃ n : Int, e = .returned (.tuple #[.int .i64 n, .bool false])) ∧ w' = w :=
  (rreg_any x (by omega) w).mono fun e w' ⟨⟨v, he, ⟨n, hv, hn⟩⟩, hw⟩ => ⟨⟨n, by rw [he, hv, h]; rfl⟩, hw⟩
theorem num_some (x : ByteArray) (hx : x.size ≤ 5000) (m : Int) (h : numberL x.data.toList = some m) (w : World) :
    Calls Tryz.prog 39 #[.string x] w fun e w' => e = .returned (.tuple #[.int .i64 m, .bool true]) ∧ w' = w :=
  (rnum_any x (by omega) w).mono fun e w' ⟨he, hw⟩ => ⟨by rw [he]; unfold numV; rw [h]; rfl, hw⟩
theorem num_none (x : ByteArray) (hx : x.size ≤ 5000) (h : numberL x.data.toList = none) (w : World) :
    Calls Tryz.prog 39 #[.string x] w fun e w' => (∃ n : Int, e = .returned (.tuple #[.int .i64 n, .bool false])) ∧ w' = w :=
  (rnum_any x (by omega) w).mono fun e w' ⟨he, hw⟩ => ⟨⟨0, by rw [he]; unfold numV; rw [h]; rfl⟩, hw⟩
theorem fold_len (op : Nat) : ∀ (cs : Str) (i j : I6) (l : List Str), foldD op i cs l = some j → l.length = cs.length
  | [], i, j, [], h => rfl
  | [], i, j, _ :: _, h => by cases h
  | _ :: _, i, j, [], h => by cases h
  | c :: cs, i, j, x :: xs, h => by
    simp only [foldD] at h
    split at h
    · next k hk => simp [fold_len op cs k j xs h]
    · cases h
theorem drop_at (s : ByteArray) (k : Nat) (h : k < s.size) : s.data.toList.drop k = s[k] :: s.data.toList.drop (k + 1) := by
  have h' : k < s.data.toList.length := by simpa using h
  rw [List.drop_eq_getElem_cons h']
  rfl
theorem built_ri (op : Int) : Tryz.prog.built 23 [(0, .int .i64 op)] = some (I6.cells ⟨op, 0, 0, 0, 0, 0⟩) := by kernel_rfl
theorem bd_ri {ops : Array Oper} {rest : List Oper} {dst : Option Tmp} {ty : TypeId} {pos : String} {after : Array Edge} {a : Act} {w : World} {Q : Exit → Act → World → Prop} {x0 : Operand} (op : Int) (h0 : a.eval x0 = .int .i64 op)
    (k : wpList Tryz.prog ops Q rest (a.put dst (.agg (I6.cells ⟨op, 0, 0, 0, 0, 0⟩))) w) : wpList Tryz.prog ops Q (⟨dst, .build 23 #[(0, x0)], ty, pos, after, none⟩ :: rest) a w := by
  have hp : ((#[(0, x0)] : Array (Nat × Operand)).map fun (i, x) => (i, a.eval x)).toList = [(0, .int .i64 op)] := by simp [h0]
  refine wpList_build rfl 23 _ rfl ?_ ?_
  · rw [hp, built_ri]; rfl
  · rw [hp, built_ri]; exact k
theorem last_of (r : ByteArray) (q : Nat) (h : r.size = q + 1) : r.data.toList.getLast? = some (r[q]'(by omega)) ∧ (r.extract 0 q).data.toList = r.data.toList.dropLast ∧ r.data.toList ≠ [] := by
  have e : r.data.toList.length = q + 1 := by rw [← h]; simp
  refine ⟨?_, ?_, ?_⟩
  · rw [List.getLast?_eq_getElem?, e]
    show r.data.toList[q]? = _
    rw [List.getElem?_eq_getElem (by omega)]
    rfl
  · rw [ext_list, List.dropLast_eq_take, e]; rfl
  · intro h0; rw [h0] at e; simp at e
theorem row_dn {w : World} {b : Nat} {cs : Array Value} {t : TypeId} (h : RowAt w b cs t) (n : Nat) : RowAt (w.drewN n) b cs t := h
theorem cut_size (s : Str) : (cut s [40]).1.length ≤ s.length ∧ (cut s [40]).2.1.length ≤ s.length := by
  cases hc : (cut s [40]).2.2 with
  | true =>
    have h1 := congrArg List.length (cut_yes hc)
    simp at h1
    omega
  | false =>
    have h := cut_nay hc
    rw [h.1, h.2]
    simp
theorem cut_same (x : ByteArray) (hx : x.size ≤ 5000) : ∃ (y r : ByteArray) (m : Bool), y.data.toList = (cut x.data.toList [40]).1 ∧ r.data.toList = (cut x.data.toList [40]).2.1 ∧ m = (cut x.data.toList [40]).2.2 ∧ y.size ≤ 5000 ∧ r.size ≤ 5000 ∧
    ∀ w, Calls Tryz.prog 40 #[.string x, .string ⟨#[40]⟩] w fun e w' => e = .returned (.tuple #[.string y, .string r, .bool m]) ∧ ∃ n, w' = w.drewN n := by
  have hz := cut_size x.data.toList
  have ex : x.data.toList.length = x.size := by simp
  refine ⟨⟨(cut x.data.toList [40]).1.toArray⟩, ⟨(cut x.data.toList [40]).2.1.toArray⟩, _, rfl, rfl, rfl, ?_, ?_, fun w => ?_⟩
  · show (cut x.data.toList [40]).1.toArray.size ≤ 5000
    rw [List.size_toArray]; omega
  · show (cut x.data.toList [40]).2.1.toArray.size ≤ 5000
    rw [List.size_toArray]; omega
  · refine (rcut_any x ⟨#[40]⟩ (by omega) (by decide) (by decide) w).mono ?_
    rintro e w' ⟨⟨v, rfl, ⟨⟨a, b, rfl, ha, hb⟩⟩⟩, hn⟩
    refine ⟨?_, hn⟩
    have e1 : a = ⟨(cut x.data.toList [40]).1.toArray⟩ := ByteArray.ext (Array.toList_inj.1 ha)
    have e2 : b = ⟨(cut x.data.toList [40]).2.1.toArray⟩ := ByteArray.ext (Array.toList_inj.1 hb)
    rw [e1, e2]
theorem parts_small : ∀ (f : Nat) (s : Str), ∀ x ∈ partsF f s, x.length ≤ s.length
  | 0, s, x, h => by simp [partsF] at h; subst h; exact Nat.le_refl _
  | f + 1, s, x, h => by
    unfold partsF at h
    split at h
    · next hc =>
      have h1 := congrArg List.length (cut_yes hc)
      simp at h1
      rcases List.mem_cons.1 h with h | h
      · subst h; omega
      · have := parts_small f _ x h; omega
    · next hc =>
      have := (cut_nay (by simpa using hc)).1
      rw [List.mem_singleton.1 h, this]
      exact Nat.le_refl _
theorem oper_small (s : Str) : ∀ x ∈ operD s, x.length ≤ s.length := by
  intro x h
  unfold operD at h
  split at h
  · next hc =>
    have := parts_small _ _ x h
    have := cut_less (by simp) hc
    omega
  · cases h
set_option maxHeartbeats 4000000 in
set_option maxRecDepth 100000 in
theorem rparse_any (s : ByteArray) (hs : s.size ≤ 5000) (w : World) :
    Calls Tryz.prog 14 #[.string s] w fun e w' => e = .returned (parseV8 (dParse s.data.toList)) ∧ Below w.heap.size w w' := by
  have HP := hide (fun w => rparts_any s hs w)
  obtain ⟨z, hz0⟩ : ∃ z, parseV8 (dParse s.data.toList) = z := ⟨_, rfl⟩
  rw [hz0]
  have HZ : Hid (z = parseV8 (dParse s.data.toList)) := hide hz0.symm
  clear hz0
  go_enter Tryz.func14, Tryz.ntmps14
  go_wp2_with (first | ((with_reducible refine al_ri w.heap.size ?_ ?_); exact rfl; intro W hq hb hz) | (go_at_call 36; refine (HP.out _).mono ?_; rintro e W ⟨v, rfl, ⟨nm, lv, l, rfl, hnm, hl, hown, hll, hbc⟩⟩; replace hq := hq.bl hbc; replace hb := below_bl rfl hb hbc))
  rcases find_any nm with ⟨op, hop, hlt, hF⟩ | ⟨hop, hF⟩
  rotate_left
  · have HNo : Hid (dParse s.data.toList = none) := hide (by unfold dParse; rw [← hnm, hop])
    obtain ⟨sh, hsh, hSh⟩ := shape_any 0 (by decide)
    have HSh := hide hSh
    clear hSh hop hown hl
    refine (hF _).mono ?_
    rintro e W3 ⟨rfl, hbc3⟩
    replace hq := hq.bl hbc3
    replace hb := below_bl rfl hb hbc3
    go_wp2_with (first | (go_at_call 30; refine (HSh.out.out _).mono ?_; rintro e W2 ⟨rfl, rfl⟩) | ((with_reducible refine st_ri w.heap.size _ zeroI8 hq ?_ ?_ ?_); exact rfl; exact rfl; intro W hnew ho; replace hq := hnew; replace hb := ho.bel _ _ (by omega) hb))
    refine bodyPost_ret (results_cell_tmp_row Tryz.results14 _ _ w.heap.size _ _ _ _ rfl hq Tryz.underlying23 rfl size_ri) rfl ?_
    exact ⟨by rw [HZ.out, HNo.out]; rfl, hb⟩
  · obtain ⟨sh, hsh, hSh⟩ := shape_any op hlt
    have HSh := hide hSh
    clear hSh
    have hshl : sh.size ≤ 3 := by
      have e : sh.data.toList.length = sh.size := by simp
      rw [hsh] at e
      rw [← e]
      rcases kindN_is op hlt with h | h | h | h | h | h | h | h | h | h | h <;> rw [h] <;> decide
    have HD : Hid (dParse s.data.toList = match foldD op ⟨op, 0, 0, 0, 0, 0⟩ sh.data.toList (l.map (·.data.toList)) with | none => none | some i => if encOk (upD op i) = true then some (upD op i) else none) := hide (by
      unfold dParse; rw [← hnm, hop]; simp only; rw [hl, hsh]; rfl)
    have hsmall : ∀ x ∈ l, x.size ≤ 5000 := fun x hx => by
      have h1 : x.data.toList ∈ operD s.data.toList := by rw [← hl]; exact List.mem_map_of_mem hx
      have h2 := oper_small s.data.toList _ h1
      have e : x.data.toList.length = x.size := by simp
      have e2 : s.data.toList.length = s.size := by simp
      omega
    refine (hF _).mono ?_
    rintro e W3 ⟨rfl, hbc3⟩
    replace hq := hq.bl hbc3
    replace hb := below_bl rfl hb hbc3
    have hrows : (lv = .slice none 0 0 ∧ l = []) ∨ ∃ g cap cur, lv = .slice (some ⟨g, 0, none⟩) l.length cap ∧ RowAt W3 g cur 9 ∧ (∀ j (hj : j < l.length), cur[j]? = some (.string l[j])) ∧ w.heap.size < g := by
      rcases hown.2 with ⟨h1, h2⟩ | ⟨g, cap, cur, h1, h2, h3, h4, h5, h6, h7⟩
      · exact .inl ⟨h1, List.length_eq_zero_iff.1 h2⟩
      · refine .inr ⟨g, cap, cur, h1, RowAt.bl h3 hbc3, fun j hj => ?_, by have := hz.out; omega⟩
        have h8 : (cur.toList.take (l.length * 1))[j]? = (strsOf l)[j]? := by rw [h7]
        rw [List.getElem?_take_of_lt (by omega)] at h8
        rw [← Array.getElem?_toList, h8]
        simp [strsOf, hj]
    clear hown hop hnm hl hll hbc3 hF hbc
    obtain ⟨NI, hNI⟩ : ∃ n, W3.heap.size = n := ⟨_, rfl⟩
    have lNI : w.heap.size + 1 ≤ NI := by have := hq.lt; omega
    by_cases hlen : l.length = sh.size
    rotate_left
    · have HNo : Hid (dParse s.data.toList = none) := hide (by
        rw [HD.out]
        cases hf : foldD op ⟨op, 0, 0, 0, 0, 0⟩ sh.data.toList (l.map (·.data.toList)) with
        | none => rfl
        | some j => exact absurd (by have := fold_len _ _ _ _ _ hf; simpa using this) hlen)
      have tl : ((l.length : Int) != (sh.size : Int)) = true := by rw [bne_iff_ne]; omega
      rcases hrows with ⟨rfl, rfl⟩ | ⟨g, cap, cur, rfl, hg, hcur, hgw⟩
      · rw [List.length_nil] at tl
        go_wp2_with (first | (go_at_call 30; refine (HSh.out.out _).mono ?_; rintro e W2 ⟨rfl, rfl⟩) | ((with_reducible refine st_ri w.heap.size _ zeroI8 hq ?_ ?_ ?_); exact rfl; exact rfl; intro W hnew ho; replace hq := hnew; replace hb := ho.bel _ _ (by omega) hb))
        refine bodyPost_ret (results_cell_tmp_row Tryz.results14 _ _ w.heap.size _ _ _ _ rfl hq Tryz.underlying23 rfl size_ri) rfl ?_
        exact ⟨by rw [HZ.out, HNo.out]; rfl, hb⟩
      · go_wp2_with (first | (go_at_call 30; refine (HSh.out.out _).mono ?_; rintro e W2 ⟨rfl, rfl⟩) | ((with_reducible refine st_ri w.heap.size _ zeroI8 hq ?_ ?_ ?_); exact rfl; exact rfl; intro W hnew ho; replace hq := hnew; replace hb := ho.bel _ _ (by omega) hb))
        refine bodyPost_ret (results_cell_tmp_row Tryz.results14 _ _ w.heap.size _ _ _ _ rfl hq Tryz.underlying23 rfl size_ri) rfl ?_
        exact ⟨by rw [HZ.out, HNo.out]; rfl, hb⟩
    · have tl : ((l.length : Int) != (sh.size : Int)) = false := by rw [hlen]; simp
      rcases hrows with ⟨rfl, rfl⟩ | ⟨g, cap, cur, rfl, hg, hcur, hgw⟩
      · have hs0 : sh.size = 0 := by simpa using hlen.symm
        have hs1 : sh.data.toList = [] := List.length_eq_zero_iff.1 (by simpa using hs0)
        have HT : Hid (foldD op ⟨op, 0, 0, 0, 0, 0⟩ sh.data.toList (([] : List ByteArray).map (·.data.toList)) = some ⟨op, 0, 0, 0, 0, 0⟩) := hide (by rw [hs1]; rfl)
        rw [List.length_nil] at tl
        go_wp2_with (first | (go_at_call 30; refine (HSh.out.out _).mono ?_; rintro e W2 ⟨rfl, rfl⟩) | ((with_reducible refine bd_ri (op : Nat) ?_ ?_); exact rfl) | ((with_reducible refine al_ri NI ?_ ?_); exact hNI; intro W hi hb' hzI; replace hq := hq.bl (hNI ▸ hb'); replace hb := hb.trans (hb'.mono (by omega))) | ((with_reducible refine st_ri NI _ ⟨(op : Nat), 0, 0, 0, 0, 0⟩ hi ?_ ?_ ?_); exact rfl; exact rfl; intro W hnew ho; replace hq := hq.only ho (by omega); replace hi := hnew; replace hb := ho.bel _ _ (by omega) hb))
        go_loopw [10] (fun kv wr => kv = .int .i64 0 ∧ RowAt wr NI (I6.cells ⟨(op : Nat), 0, 0, 0, 0, 0⟩) 23 ∧ RowAt wr w.heap.size zeroI8.cells 23 ∧ Below w.heap.size w wr) (fun _ _ => 0)
        case atStart => exact ⟨rfl, hi, hq, hb⟩
        case round =>
          clear hi hq hb
          obtain ⟨rfl, hi, hq, hb⟩ := hrel
          have tz : decide ((0 : Int) < (sh.size : Int)) = false := decide_eq_false (by omega)
          have tz' : decide (0 < sh.size) = false := decide_eq_false (by omega)
          obtain ⟨i, hie⟩ : ∃ i : I6, (⟨(op : Nat), 0, 0, 0, 0, 0⟩ : I6) = i := ⟨_, rfl⟩
          have hI : -4294967296 ≤ i.imm ∧ i.imm ≤ 4294967296 := by subst hie; exact ⟨(by decide : (-4294967296 : Int) ≤ 0), (by decide : (0 : Int) ≤ 4294967296)⟩
          replace HT : Hid (foldD op ⟨op, 0, 0, 0, 0, 0⟩ sh.data.toList (([] : List ByteArray).map (·.data.toList)) = some i) := hide (by rw [HT.out, hie])
          rw [hie] at hi
          clear hie tl
          have HU : Hid (dParse s.data.toList = if encOk (upD op i) = true then some (upD op i) else none) := hide (by rw [HD.out, HT.out])
          have HKi := hide (fun w => rkind_yes op hlt w)
          by_cases k85 : kindN op = 85
          · have hu : upD op i = { i with imm := i.imm * 4096 } := by unfold upD; rw [if_pos k85]
            rw [hu] at HU
            have u1 : (((kindN op : Nat) : Int) == 85) = true := by (rw [k85]; rfl)
            have HM4 : Hid (Value.int .i64 (wrap64 (i.imm * 4096)) = .int .i64 (i.imm * 4096)) := hide (by congr 1; unfold wrap64; omega)
            have HCk := hide (fun w => rcheck_all ({ i with imm := i.imm * 4096 } : I6) w)
            unfold encN at HCk
            clear hu
            cases hE : encOk ({ i with imm := i.imm * 4096 } : I6) with
            | true =>
              rw [hE] at HU HCk
              have HY : Hid (dParse s.data.toList = some ({ i with imm := i.imm * 4096 })) := hide (by rw [HU.out]; rfl)
              simp only [if_true] at HCk
              go_wp2_with (first | (go_at_call 29; refine (HKi.out _).mono ?_; rintro e W2 ⟨rfl, rfl⟩) | (go_at_call 27; (with_reducible refine (HCk.out _).mono ?_); rintro e W ⟨rfl, hbc⟩; replace hq := hq.bl hbc; replace hi := hi.bl hbc; replace hb := below_bl rfl hb hbc) | ((with_reducible refine ld_ri NI _ hi ?_ ?_); exact rfl) | ((with_reducible refine ld_im NI _ hi ?_ ?_); exact rfl) | ((with_reducible refine st_imm NI _ (i.imm * 4096) hi ?_ ?_ ?_); exact rfl; (first | exact rfl | exact HM4.out); intro W hnew ho; replace hq := hq.only ho (by omega); replace hi := hnew; replace hb := ho.bel _ _ (by omega) hb) | ((with_reducible refine st_ri w.heap.size _ ({ i with imm := i.imm * 4096 }) hq ?_ ?_ ?_); exact rfl; exact rfl; intro W hnew ho; replace hi := hi.only ho (by omega); replace hq := hnew; replace hb := ho.bel _ _ (by omega) hb))
              refine bodyPost_ret (results_cell_tmp_row Tryz.results14 _ _ w.heap.size _ _ _ _ rfl hq Tryz.underlying23 rfl size_ri) rfl ?_
              exact ⟨by rw [HZ.out, HY.out]; rfl, hb⟩
            | false =>
              rw [hE] at HU HCk
              have HY : Hid (dParse s.data.toList = none) := hide (by rw [HU.out]; rfl)
              simp only [Bool.false_eq_true, if_false] at HCk
              go_wp2_with (first | (go_at_call 29; refine (HKi.out _).mono ?_; rintro e W2 ⟨rfl, rfl⟩) | (go_at_call 27; (with_reducible refine (HCk.out _).mono ?_); rintro e W ⟨rfl, hbc⟩; replace hq := hq.bl hbc; replace hi := hi.bl hbc; replace hb := below_bl rfl hb hbc) | ((with_reducible refine ld_ri NI _ hi ?_ ?_); exact rfl) | ((with_reducible refine ld_im NI _ hi ?_ ?_); exact rfl) | ((with_reducible refine st_imm NI _ (i.imm * 4096) hi ?_ ?_ ?_); exact rfl; (first | exact rfl | exact HM4.out); intro W hnew ho; replace hq := hq.only ho (by omega); replace hi := hnew; replace hb := ho.bel _ _ (by omega) hb) | ((with_reducible refine st_ri w.heap.size _ zeroI8 hq ?_ ?_ ?_); exact rfl; exact rfl; intro W hnew ho; replace hi := hi.only ho (by omega); replace hq := hnew; replace hb := ho.bel _ _ (by omega) hb))
              refine bodyPost_ret (results_cell_tmp_row Tryz.results14 _ _ w.heap.size _ _ _ _ rfl hq Tryz.underlying23 rfl size_ri) rfl ?_
              exact ⟨by rw [HZ.out, HY.out]; rfl, hb⟩
          · have hu : upD op i = i := by unfold upD; rw [if_neg k85]
            rw [hu] at HU
            have u1 : (((kindN op : Nat) : Int) == 85) = false := by (rw [beq_eq_false_iff_ne]; omega)
            have HCk := hide (fun w => rcheck_all i w)
            unfold encN at HCk
            clear hu
            cases hE : encOk i with
            | true =>
              rw [hE] at HU HCk
              have HY : Hid (dParse s.data.toList = some i) := hide (by rw [HU.out]; rfl)
              simp only [if_true] at HCk
              go_wp2_with (first | (go_at_call 29; refine (HKi.out _).mono ?_; rintro e W2 ⟨rfl, rfl⟩) | (go_at_call 27; (with_reducible refine (HCk.out _).mono ?_); rintro e W ⟨rfl, hbc⟩; replace hq := hq.bl hbc; replace hi := hi.bl hbc; replace hb := below_bl rfl hb hbc) | ((with_reducible refine ld_ri NI _ hi ?_ ?_); exact rfl) | ((with_reducible refine st_ri w.heap.size _ i hq ?_ ?_ ?_); exact rfl; exact rfl; intro W hnew ho; replace hi := hi.only ho (by omega); replace hq := hnew; replace hb := ho.bel _ _ (by omega) hb))
              refine bodyPost_ret (results_cell_tmp_row Tryz.results14 _ _ w.heap.size _ _ _ _ rfl hq Tryz.underlying23 rfl size_ri) rfl ?_
              exact ⟨by rw [HZ.out, HY.out]; rfl, hb⟩
            | false =>
              rw [hE] at HU HCk
              have HY : Hid (dParse s.data.toList = none) := hide (by rw [HU.out]; rfl)
              simp only [Bool.false_eq_true, if_false] at HCk
              go_wp2_with (first | (go_at_call 29; refine (HKi.out _).mono ?_; rintro e W2 ⟨rfl, rfl⟩) | (go_at_call 27; (with_reducible refine (HCk.out _).mono ?_); rintro e W ⟨rfl, hbc⟩; replace hq := hq.bl hbc; replace hi := hi.bl hbc; replace hb := below_bl rfl hb hbc) | ((with_reducible refine ld_ri NI _ hi ?_ ?_); exact rfl) | ((with_reducible refine st_ri w.heap.size _ zeroI8 hq ?_ ?_ ?_); exact rfl; exact rfl; intro W hnew ho; replace hi := hi.only ho (by omega); replace hq := hnew; replace hb := ho.bel _ _ (by omega) hb))
              refine bodyPost_ret (results_cell_tmp_row Tryz.results14 _ _ w.heap.size _ _ _ _ rfl hq Tryz.underlying23 rfl size_ri) rfl ?_
              exact ⟨by rw [HZ.out, HY.out]; rfl, hb⟩
      · have hgN : g < NI := by have := hg.lt; omega
        obtain ⟨T, hT0⟩ : ∃ T, foldD op ⟨op, 0, 0, 0, 0, 0⟩ sh.data.toList (l.map (·.data.toList)) = T := ⟨_, rfl⟩
        have HT0 := hide hT0
        rw [hT0] at HD
        clear hT0
        go_wp2_with (first | (go_at_call 30; refine (HSh.out.out _).mono ?_; rintro e W2 ⟨rfl, rfl⟩) | ((with_reducible refine bd_ri (op : Nat) ?_ ?_); exact rfl) | ((with_reducible refine al_ri NI ?_ ?_); exact hNI; intro W hi hb' hzI; replace hq := hq.bl (hNI ▸ hb'); replace hg := hg.bl (hNI ▸ hb'); replace hb := hb.trans (hb'.mono (by omega))) | ((with_reducible refine st_ri NI _ ⟨(op : Nat), 0, 0, 0, 0, 0⟩ hi ?_ ?_ ?_); exact rfl; exact rfl; intro W hnew ho; replace hq := hq.only ho (by omega); replace hg := hg.only ho (by omega); replace hi := hnew; replace hb := ho.bel _ _ (by omega) hb))
        go_loopw [10] (fun kv wr => ∃ (k : Nat) (i : I6), kv = .int .i64 k ∧ k ≤ sh.size ∧ foldD op i (sh.data.toList.drop k) ((l.map (·.data.toList)).drop k) = T ∧ (-4294967296 ≤ i.imm ∧ i.imm ≤ 4294967296) ∧ RowAt wr NI i.cells 23 ∧ RowAt wr w.heap.size zeroI8.cells 23 ∧ RowAt wr g cur 9 ∧ Below w.heap.size w wr) (fun kv _ => sh.size - (RowKit.intOf kv).toNat)
        case atStart => exact ⟨0, ⟨(op : Nat), 0, 0, 0, 0, 0⟩, rfl, by omega, HT0.out, ⟨(by decide : (-4294967296 : Int) ≤ 0), (by decide : (0 : Int) ≤ 4294967296)⟩, hi, hq, hg, hb⟩
        case round =>
          clear hi hq hg hb tl
          obtain ⟨k, i, rfl, hk, hfd, hI, hi, hq, hg, hb⟩ := hrel
          have lg : NI ≠ g ∨ True := .inr trivial
          by_cases hks : k < sh.size
          · have tk : ((k : Int) < (sh.size : Int)) := by omega
            have hkl : k < l.length := by omega
            have tk2 : ((k : Int) < (l.length : Int)) := by omega
            have hcx := hcur k hkl
            have hx := hsmall l[k] (List.getElem_mem hkl)
            have hd2 : (l.map (·.data.toList)).drop k = l[k].data.toList :: (l.map (·.data.toList)).drop (k + 1) := by
              rw [List.drop_eq_getElem_cons (by simpa using hkl)]; simp
            rw [drop_at sh k hks, hd2] at hfd
            generalize l[k] = x at *
            have HStep := hide (fun (j : I6) (hj : putD op i sh[k] x.data.toList = some j) => show foldD op j (sh.data.toList.drop (k + 1)) ((l.map (·.data.toList)).drop (k + 1)) = T by
              rw [← hfd]; simp only [foldD, hj])
            have HFail := hide (fun (hj : putD op i sh[k] x.data.toList = none) => show T = none by
              rw [← hfd]; simp only [foldD, hj])
            clear hfd hd2
            by_cases c100 : sh[k] = 100
            · have e100 : (((sh[k].toNat : Nat) : Int) == 100) = true := by rw [c100]; rfl
              cases hr : regD x.data.toList with
              | none =>
                have hT := HFail.out (by rw [c100]; simp [putD, hr])
                have HNo : Hid (dParse s.data.toList = none) := hide (by rw [HD.out, hT])
                have HR := hide (fun w => reg_none x hx hr w)
                clear hr hT
                go_wp2_with (first | ((with_reducible refine ld_str g k x _ _ hg hcx ?_ ?_); exact rfl) | (go_at_call 38; (with_reducible refine (HR.out _).mono ?_); rintro e W2 ⟨⟨n0, rfl⟩, rfl⟩) | ((with_reducible refine st_rd NI _ n0 hi ?_ ?_ ?_); exact rfl; (first | exact rfl | exact HM4.out); intro W hnew ho; replace hq := hq.only ho (by omega); replace hg := hg.only ho (by omega); replace hi := hnew; replace hb := ho.bel _ _ (by omega) hb) | ((with_reducible refine st_ri w.heap.size _ zeroI8 hq ?_ ?_ ?_); exact rfl; exact rfl; intro W hnew ho; replace hi := hi.only ho (by omega); replace hg := hg.only ho (by omega); replace hq := hnew; replace hb := ho.bel _ _ (by omega) hb))
                refine bodyPost_ret (results_cell_tmp_row Tryz.results14 _ _ w.heap.size _ _ _ _ rfl hq Tryz.underlying23 rfl size_ri) rfl ?_
                exact ⟨by rw [HZ.out, HNo.out]; rfl, hb⟩
              | some m =>
                have HT2 := hide (HStep.out { i with rd := m } (by rw [c100]; simp [putD, hr]))
                have HR := hide (fun w => reg_some x hx m hr w)
                clear hr
                go_wp2_with (first | ((with_reducible refine ld_str g k x _ _ hg hcx ?_ ?_); exact rfl) | (go_at_call 38; (with_reducible refine (HR.out _).mono ?_); rintro e W2 ⟨rfl, rfl⟩) | ((with_reducible refine st_rd NI _ m hi ?_ ?_ ?_); exact rfl; (first | exact rfl | exact HM4.out); intro W hnew ho; replace hq := hq.only ho (by omega); replace hg := hg.only ho (by omega); replace hi := hnew; replace hb := ho.bel _ _ (by omega) hb))
                go_roundw
                case rel => exact ⟨k + 1, { i with rd := m }, by go_num, by omega, HT2.out, hI, hi, hq, hg, hb⟩
                case measure => simp [RowKit.intOf]; omega
            by_cases c115 : sh[k] = 115
            · have e100 : (((sh[k].toNat : Nat) : Int) == 100) = false := by rw [c115]; rfl
              have e115 : (((sh[k].toNat : Nat) : Int) == 115) = true := by rw [c115]; rfl
              cases hr : regD x.data.toList with
              | none =>
                have hT := HFail.out (by rw [c115]; simp [putD, hr])
                have HNo : Hid (dParse s.data.toList = none) := hide (by rw [HD.out, hT])
                have HR := hide (fun w => reg_none x hx hr w)
                clear hr hT
                go_wp2_with (first | ((with_reducible refine ld_str g k x _ _ hg hcx ?_ ?_); exact rfl) | (go_at_call 38; (with_reducible refine (HR.out _).mono ?_); rintro e W2 ⟨⟨n0, rfl⟩, rfl⟩) | ((with_reducible refine st_rs1 NI _ n0 hi ?_ ?_ ?_); exact rfl; (first | exact rfl | exact HM4.out); intro W hnew ho; replace hq := hq.only ho (by omega); replace hg := hg.only ho (by omega); replace hi := hnew; replace hb := ho.bel _ _ (by omega) hb) | ((with_reducible refine st_ri w.heap.size _ zeroI8 hq ?_ ?_ ?_); exact rfl; exact rfl; intro W hnew ho; replace hi := hi.only ho (by omega); replace hg := hg.only ho (by omega); replace hq := hnew; replace hb := ho.bel _ _ (by omega) hb))
                refine bodyPost_ret (results_cell_tmp_row Tryz.results14 _ _ w.heap.size _ _ _ _ rfl hq Tryz.underlying23 rfl size_ri) rfl ?_
                exact ⟨by rw [HZ.out, HNo.out]; rfl, hb⟩
              | some m =>
                have HT2 := hide (HStep.out { i with rs1 := m } (by rw [c115]; simp [putD, hr]))
                have HR := hide (fun w => reg_some x hx m hr w)
                clear hr
                go_wp2_with (first | ((with_reducible refine ld_str g k x _ _ hg hcx ?_ ?_); exact rfl) | (go_at_call 38; (with_reducible refine (HR.out _).mono ?_); rintro e W2 ⟨rfl, rfl⟩) | ((with_reducible refine st_rs1 NI _ m hi ?_ ?_ ?_); exact rfl; (first | exact rfl | exact HM4.out); intro W hnew ho; replace hq := hq.only ho (by omega); replace hg := hg.only ho (by omega); replace hi := hnew; replace hb := ho.bel _ _ (by omega) hb))
                go_roundw
                case rel => exact ⟨k + 1, { i with rs1 := m }, by go_num, by omega, HT2.out, hI, hi, hq, hg, hb⟩
                case measure => simp [RowKit.intOf]; omega
            by_cases c116 : sh[k] = 116
            · have e100 : (((sh[k].toNat : Nat) : Int) == 100) = false := by rw [c116]; rfl
              have e115 : (((sh[k].toNat : Nat) : Int) == 115) = false := by rw [c116]; rfl
              have e116 : (((sh[k].toNat : Nat) : Int) == 116) = true := by rw [c116]; rfl
              cases hr : regD x.data.toList with
              | none =>
                have hT := HFail.out (by rw [c116]; simp [putD, hr])
                have HNo : Hid (dParse s.data.toList = none) := hide (by rw [HD.out, hT])
                have HR := hide (fun w => reg_none x hx hr w)
                clear hr hT
                go_wp2_with (first | ((with_reducible refine ld_str g k x _ _ hg hcx ?_ ?_); exact rfl) | (go_at_call 38; (with_reducible refine (HR.out _).mono ?_); rintro e W2 ⟨⟨n0, rfl⟩, rfl⟩) | ((with_reducible refine st_rs2 NI _ n0 hi ?_ ?_ ?_); exact rfl; (first | exact rfl | exact HM4.out); intro W hnew ho; replace hq := hq.only ho (by omega); replace hg := hg.only ho (by omega); replace hi := hnew; replace hb := ho.bel _ _ (by omega) hb) | ((with_reducible refine st_ri w.heap.size _ zeroI8 hq ?_ ?_ ?_); exact rfl; exact rfl; intro W hnew ho; replace hi := hi.only ho (by omega); replace hg := hg.only ho (by omega); replace hq := hnew; replace hb := ho.bel _ _ (by omega) hb))
                refine bodyPost_ret (results_cell_tmp_row Tryz.results14 _ _ w.heap.size _ _ _ _ rfl hq Tryz.underlying23 rfl size_ri) rfl ?_
                exact ⟨by rw [HZ.out, HNo.out]; rfl, hb⟩
              | some m =>
                have HT2 := hide (HStep.out { i with rs2 := m } (by rw [c116]; simp [putD, hr]))
                have HR := hide (fun w => reg_some x hx m hr w)
                clear hr
                go_wp2_with (first | ((with_reducible refine ld_str g k x _ _ hg hcx ?_ ?_); exact rfl) | (go_at_call 38; (with_reducible refine (HR.out _).mono ?_); rintro e W2 ⟨rfl, rfl⟩) | ((with_reducible refine st_rs2 NI _ m hi ?_ ?_ ?_); exact rfl; (first | exact rfl | exact HM4.out); intro W hnew ho; replace hq := hq.only ho (by omega); replace hg := hg.only ho (by omega); replace hi := hnew; replace hb := ho.bel _ _ (by omega) hb))
                go_roundw
                case rel => exact ⟨k + 1, { i with rs2 := m }, by go_num, by omega, HT2.out, hI, hi, hq, hg, hb⟩
                case measure => simp [RowKit.intOf]; omega
            by_cases c110 : sh[k] = 110
            · have e100 : (((sh[k].toNat : Nat) : Int) == 100) = false := by rw [c110]; rfl
              have e115 : (((sh[k].toNat : Nat) : Int) == 115) = false := by rw [c110]; rfl
              have e116 : (((sh[k].toNat : Nat) : Int) == 116) = false := by rw [c110]; rfl
              have e110 : (((sh[k].toNat : Nat) : Int) == 110) = true := by rw [c110]; rfl
              cases hr : numberL x.data.toList with
              | none =>
                have hT := HFail.out (by rw [c110]; simp [putD, hr])
                have HNo : Hid (dParse s.data.toList = none) := hide (by rw [HD.out, hT])
                have HR := hide (fun w => num_none x hx hr w)
                clear hr hT
                go_wp2_with (first | ((with_reducible refine ld_str g k x _ _ hg hcx ?_ ?_); exact rfl) | (go_at_call 39; (with_reducible refine (HR.out _).mono ?_); rintro e W2 ⟨⟨n0, rfl⟩, rfl⟩) | ((with_reducible refine st_imm NI _ n0 hi ?_ ?_ ?_); exact rfl; (first | exact rfl | exact HM4.out); intro W hnew ho; replace hq := hq.only ho (by omega); replace hg := hg.only ho (by omega); replace hi := hnew; replace hb := ho.bel _ _ (by omega) hb) | ((with_reducible refine st_ri w.heap.size _ zeroI8 hq ?_ ?_ ?_); exact rfl; exact rfl; intro W hnew ho; replace hi := hi.only ho (by omega); replace hg := hg.only ho (by omega); replace hq := hnew; replace hb := ho.bel _ _ (by omega) hb))
                refine bodyPost_ret (results_cell_tmp_row Tryz.results14 _ _ w.heap.size _ _ _ _ rfl hq Tryz.underlying23 rfl size_ri) rfl ?_
                exact ⟨by rw [HZ.out, HNo.out]; rfl, hb⟩
              | some m =>
                have HT2 := hide (HStep.out { i with imm := m } (by rw [c110]; simp [putD, hr]))
                have HR := hide (fun w => num_some x hx m hr w)
                have hmb := ((number_iff _ _).1 hr).2
                clear hr
                go_wp2_with (first | ((with_reducible refine ld_str g k x _ _ hg hcx ?_ ?_); exact rfl) | (go_at_call 39; (with_reducible refine (HR.out _).mono ?_); rintro e W2 ⟨rfl, rfl⟩) | ((with_reducible refine st_imm NI _ m hi ?_ ?_ ?_); exact rfl; (first | exact rfl | exact HM4.out); intro W hnew ho; replace hq := hq.only ho (by omega); replace hg := hg.only ho (by omega); replace hi := hnew; replace hb := ho.bel _ _ (by omega) hb))
                go_roundw
                case rel => exact ⟨k + 1, { i with imm := m }, by go_num, by omega, HT2.out, hmb, hi, hq, hg, hb⟩
                case measure => simp [RowKit.intOf]; omega
            by_cases c109 : sh[k] = 109
            · have e100 : (((sh[k].toNat : Nat) : Int) == 100) = false := by rw [c109]; rfl
              have e115 : (((sh[k].toNat : Nat) : Int) == 115) = false := by rw [c109]; rfl
              have e116 : (((sh[k].toNat : Nat) : Int) == 116) = false := by rw [c109]; rfl
              have e110 : (((sh[k].toNat : Nat) : Int) == 110) = false := by rw [c109]; rfl
              have e109 : (((sh[k].toNat : Nat) : Int) == 109) = true := by rw [c109]; rfl
              obtain ⟨y, r, m, hy, hr, hm, hys, hrs, HC0⟩ := cut_same x hx
              have HC := hide HC0
              clear HC0
              have HMem := hide (show memD x.data.toList = (match numberL y.data.toList with | none => none | some n => if m = false ∨ r.data.toList = [] ∨ r.data.toList.getLast? ≠ some 41 then none else match regD r.data.toList.dropLast with | some q => some (n, q) | none => none) by unfold memD; rw [hy, hr, hm]; rfl)
              clear hy hr hm
              cases hn : numberL y.data.toList with
              | none =>
                have HR := hide (fun w => num_none y hys hn w)
                cases m with
                | true =>
                  have hT := HFail.out (by rw [c109]; simp [putD, HMem.out, hn])
                  have HNo : Hid (dParse s.data.toList = none) := hide (by rw [HD.out, hT])
                  clear hn hT HMem
                  go_wp2_with (first | ((with_reducible refine ld_str g k x _ _ hg hcx ?_ ?_); exact rfl) | (go_at_call 40; (with_reducible refine (HC.out _).mono ?_); rintro e W2 ⟨rfl, n2, rfl⟩; replace hi := row_dn hi n2; replace hq := row_dn hq n2; replace hg := row_dn hg n2; replace hb := below_dn hb n2) | (go_at_call 39; (with_reducible refine (HR.out _).mono ?_); rintro e W2 ⟨⟨n0, rfl⟩, rfl⟩) | ((with_reducible refine st_imm NI _ n0 hi ?_ ?_ ?_); exact rfl; (first | exact rfl | exact HM4.out); intro W hnew ho; replace hq := hq.only ho (by omega); replace hg := hg.only ho (by omega); replace hi := hnew; replace hb := ho.bel _ _ (by omega) hb) | ((with_reducible refine st_ri w.heap.size _ zeroI8 hq ?_ ?_ ?_); exact rfl; exact rfl; intro W hnew ho; replace hi := hi.only ho (by omega); replace hg := hg.only ho (by omega); replace hq := hnew; replace hb := ho.bel _ _ (by omega) hb))
                  refine bodyPost_ret (results_cell_tmp_row Tryz.results14 _ _ w.heap.size _ _ _ _ rfl hq Tryz.underlying23 rfl size_ri) rfl ?_
                  exact ⟨by rw [HZ.out, HNo.out]; rfl, hb⟩
                | false =>
                  have hT := HFail.out (by rw [c109]; simp [putD, HMem.out, hn])
                  have HNo : Hid (dParse s.data.toList = none) := hide (by rw [HD.out, hT])
                  clear hn hT HMem
                  go_wp2_with (first | ((with_reducible refine ld_str g k x _ _ hg hcx ?_ ?_); exact rfl) | (go_at_call 40; (with_reducible refine (HC.out _).mono ?_); rintro e W2 ⟨rfl, n2, rfl⟩; replace hi := row_dn hi n2; replace hq := row_dn hq n2; replace hg := row_dn hg n2; replace hb := below_dn hb n2) | (go_at_call 39; (with_reducible refine (HR.out _).mono ?_); rintro e W2 ⟨⟨n0, rfl⟩, rfl⟩) | ((with_reducible refine st_imm NI _ n0 hi ?_ ?_ ?_); exact rfl; (first | exact rfl | exact HM4.out); intro W hnew ho; replace hq := hq.only ho (by omega); replace hg := hg.only ho (by omega); replace hi := hnew; replace hb := ho.bel _ _ (by omega) hb) | ((with_reducible refine st_ri w.heap.size _ zeroI8 hq ?_ ?_ ?_); exact rfl; exact rfl; intro W hnew ho; replace hi := hi.only ho (by omega); replace hg := hg.only ho (by omega); replace hq := hnew; replace hb := ho.bel _ _ (by omega) hb))
                  refine bodyPost_ret (results_cell_tmp_row Tryz.results14 _ _ w.heap.size _ _ _ _ rfl hq Tryz.underlying23 rfl size_ri) rfl ?_
                  exact ⟨by rw [HZ.out, HNo.out]; rfl, hb⟩
              | some n =>
                have HR := hide (fun w => num_some y hys n hn w)
                cases m with
                | false =>
                  have hT := HFail.out (by rw [c109]; simp [putD, HMem.out, hn])
                  have HNo : Hid (dParse s.data.toList = none) := hide (by rw [HD.out, hT])
                  clear hn hT HMem
                  go_wp2_with (first | ((with_reducible refine ld_str g k x _ _ hg hcx ?_ ?_); exact rfl) | (go_at_call 40; (with_reducible refine (HC.out _).mono ?_); rintro e W2 ⟨rfl, n2, rfl⟩; replace hi := row_dn hi n2; replace hq := row_dn hq n2; replace hg := row_dn hg n2; replace hb := below_dn hb n2) | (go_at_call 39; (with_reducible refine (HR.out _).mono ?_); rintro e W2 ⟨rfl, rfl⟩) | ((with_reducible refine st_imm NI _ n hi ?_ ?_ ?_); exact rfl; (first | exact rfl | exact HM4.out); intro W hnew ho; replace hq := hq.only ho (by omega); replace hg := hg.only ho (by omega); replace hi := hnew; replace hb := ho.bel _ _ (by omega) hb) | ((with_reducible refine st_ri w.heap.size _ zeroI8 hq ?_ ?_ ?_); exact rfl; exact rfl; intro W hnew ho; replace hi := hi.only ho (by omega); replace hg := hg.only ho (by omega); replace hq := hnew; replace hb := ho.bel _ _ (by omega) hb))
                  refine bodyPost_ret (results_cell_tmp_row Tryz.results14 _ _ w.heap.size _ _ _ _ rfl hq Tryz.underlying23 rfl size_ri) rfl ?_
                  exact ⟨by rw [HZ.out, HNo.out]; rfl, hb⟩
                | true =>
                  by_cases r0 : r.size < 1
                  · have t0 : ((r.size : Int) < 1) := by omega
                    have rl : r.data.toList = [] := List.length_eq_zero_iff.1 (by (have e : r.data.toList.length = r.size := by simp); omega)
                    have hT := HFail.out (by rw [c109]; simp [putD, HMem.out, hn, rl])
                    have HNo : Hid (dParse s.data.toList = none) := hide (by rw [HD.out, hT])
                    clear hn hT HMem
                    go_wp2_with (first | ((with_reducible refine ld_str g k x _ _ hg hcx ?_ ?_); exact rfl) | (go_at_call 40; (with_reducible refine (HC.out _).mono ?_); rintro e W2 ⟨rfl, n2, rfl⟩; replace hi := row_dn hi n2; replace hq := row_dn hq n2; replace hg := row_dn hg n2; replace hb := below_dn hb n2) | (go_at_call 39; (with_reducible refine (HR.out _).mono ?_); rintro e W2 ⟨rfl, rfl⟩) | ((with_reducible refine st_imm NI _ n hi ?_ ?_ ?_); exact rfl; (first | exact rfl | exact HM4.out); intro W hnew ho; replace hq := hq.only ho (by omega); replace hg := hg.only ho (by omega); replace hi := hnew; replace hb := ho.bel _ _ (by omega) hb) | ((with_reducible refine st_ri w.heap.size _ zeroI8 hq ?_ ?_ ?_); exact rfl; exact rfl; intro W hnew ho; replace hi := hi.only ho (by omega); replace hg := hg.only ho (by omega); replace hq := hnew; replace hb := ho.bel _ _ (by omega) hb))
                    refine bodyPost_ret (results_cell_tmp_row Tryz.results14 _ _ w.heap.size _ _ _ _ rfl hq Tryz.underlying23 rfl size_ri) rfl ?_
                    exact ⟨by rw [HZ.out, HNo.out]; rfl, hb⟩
                  · have t0 : decide ((r.size : Int) < 1) = false := decide_eq_false (by omega)
                    obtain ⟨q, hq1⟩ : ∃ q, r.size = q + 1 := ⟨r.size - 1, by omega⟩
                    have hqr : q < r.size := by omega
                    have eq1 : wrap64 ((r.size : Int) - 1) = (q : Nat) := by unfold wrap64; omega
                    have eq2 : (r.size : Int) - 1 = (q : Nat) := by omega
                    have hl := last_of r q hq1
                    by_cases r41 : r[q] = 41
                    · have t41 : (((r[q].toNat : Nat) : Int) != 41) = false := by rw [r41]; rfl
                      rw [r41] at hl
                      have hxs : (r.extract 0 q).size ≤ 5000 := by (have : (r.extract 0 q).size = q := by simp; omega); omega
                      cases hr2 : regD (r.extract 0 q).data.toList with
                      | none =>
                        have hT := HFail.out (by rw [c109]; rw [hl.2.1] at hr2; simp [putD, HMem.out, hn, hl.1, hl.2.2, hr2])
                        have HNo : Hid (dParse s.data.toList = none) := hide (by rw [HD.out, hT])
                        have HR2 := hide (fun w => reg_none (r.extract 0 q) hxs hr2 w)
                        clear hn hT HMem hl hr2
                        go_wp2_with (first | ((with_reducible refine ld_str g k x _ _ hg hcx ?_ ?_); exact rfl) | (go_at_call 40; (with_reducible refine (HC.out _).mono ?_); rintro e W2 ⟨rfl, n2, rfl⟩; replace hi := row_dn hi n2; replace hq := row_dn hq n2; replace hg := row_dn hg n2; replace hb := below_dn hb n2) | (go_at_call 39; (with_reducible refine (HR.out _).mono ?_); rintro e W2 ⟨rfl, rfl⟩) | (go_at_call 38; (with_reducible refine (HR2.out _).mono ?_); rintro e W2 ⟨⟨n0, rfl⟩, rfl⟩) | ((with_reducible refine st_imm NI _ n hi ?_ ?_ ?_); exact rfl; (first | exact rfl | exact HM4.out); intro W hnew ho; replace hq := hq.only ho (by omega); replace hg := hg.only ho (by omega); replace hi := hnew; replace hb := ho.bel _ _ (by omega) hb) | ((with_reducible refine st_rs1 NI _ n0 hi ?_ ?_ ?_); exact rfl; (first | exact rfl | exact HM4.out); intro W hnew ho; replace hq := hq.only ho (by omega); replace hg := hg.only ho (by omega); replace hi := hnew; replace hb := ho.bel _ _ (by omega) hb) | ((with_reducible refine st_ri w.heap.size _ zeroI8 hq ?_ ?_ ?_); exact rfl; exact rfl; intro W hnew ho; replace hi := hi.only ho (by omega); replace hg := hg.only ho (by omega); replace hq := hnew; replace hb := ho.bel _ _ (by omega) hb))
                        refine bodyPost_ret (results_cell_tmp_row Tryz.results14 _ _ w.heap.size _ _ _ _ rfl hq Tryz.underlying23 rfl size_ri) rfl ?_
                        exact ⟨by rw [HZ.out, HNo.out]; rfl, hb⟩
                      | some m2 =>
                        have HT2 := hide (HStep.out { i with imm := n, rs1 := m2 } (by rw [c109]; rw [hl.2.1] at hr2; simp [putD, HMem.out, hn, hl.1, hl.2.2, hr2]))
                        have HR2 := hide (fun w => reg_some (r.extract 0 q) hxs m2 hr2 w)
                        have hmb := ((number_iff _ _).1 hn).2
                        clear hn HMem hl hr2
                        go_wp2_with (first | ((with_reducible refine ld_str g k x _ _ hg hcx ?_ ?_); exact rfl) | (go_at_call 40; (with_reducible refine (HC.out _).mono ?_); rintro e W2 ⟨rfl, n2, rfl⟩; replace hi := row_dn hi n2; replace hq := row_dn hq n2; replace hg := row_dn hg n2; replace hb := below_dn hb n2) | (go_at_call 39; (with_reducible refine (HR.out _).mono ?_); rintro e W2 ⟨rfl, rfl⟩) | (go_at_call 38; (with_reducible refine (HR2.out _).mono ?_); rintro e W2 ⟨rfl, rfl⟩) | ((with_reducible refine st_imm NI _ n hi ?_ ?_ ?_); exact rfl; (first | exact rfl | exact HM4.out); intro W hnew ho; replace hq := hq.only ho (by omega); replace hg := hg.only ho (by omega); replace hi := hnew; replace hb := ho.bel _ _ (by omega) hb) | ((with_reducible refine st_rs1 NI _ m2 hi ?_ ?_ ?_); exact rfl; (first | exact rfl | exact HM4.out); intro W hnew ho; replace hq := hq.only ho (by omega); replace hg := hg.only ho (by omega); replace hi := hnew; replace hb := ho.bel _ _ (by omega) hb))
                        go_roundw
                        case rel => exact ⟨k + 1, { i with imm := n, rs1 := m2 }, by go_num, by omega, HT2.out, hmb, hi, hq, hg, hb⟩
                        case measure => simp [RowKit.intOf]; omega
                    · have t41 : (((r[q].toNat : Nat) : Int) != 41) = true := by (rw [bne_iff_ne]; intro e; exact r41 (UInt8.toNat_inj.1 (by (show r[q].toNat = 41); omega)))
                      have hT := HFail.out (by rw [c109]; simp [putD, HMem.out, hn, hl.1, r41])
                      have HNo : Hid (dParse s.data.toList = none) := hide (by rw [HD.out, hT])
                      clear hn hT HMem hl
                      go_wp2_with (first | ((with_reducible refine ld_str g k x _ _ hg hcx ?_ ?_); exact rfl) | (go_at_call 40; (with_reducible refine (HC.out _).mono ?_); rintro e W2 ⟨rfl, n2, rfl⟩; replace hi := row_dn hi n2; replace hq := row_dn hq n2; replace hg := row_dn hg n2; replace hb := below_dn hb n2) | (go_at_call 39; (with_reducible refine (HR.out _).mono ?_); rintro e W2 ⟨rfl, rfl⟩) | ((with_reducible refine st_imm NI _ n hi ?_ ?_ ?_); exact rfl; (first | exact rfl | exact HM4.out); intro W hnew ho; replace hq := hq.only ho (by omega); replace hg := hg.only ho (by omega); replace hi := hnew; replace hb := ho.bel _ _ (by omega) hb) | ((with_reducible refine st_ri w.heap.size _ zeroI8 hq ?_ ?_ ?_); exact rfl; exact rfl; intro W hnew ho; replace hi := hi.only ho (by omega); replace hg := hg.only ho (by omega); replace hq := hnew; replace hb := ho.bel _ _ (by omega) hb))
                      refine bodyPost_ret (results_cell_tmp_row Tryz.results14 _ _ w.heap.size _ _ _ _ rfl hq Tryz.underlying23 rfl size_ri) rfl ?_
                      exact ⟨by rw [HZ.out, HNo.out]; rfl, hb⟩
            by_cases c99 : sh[k] = 99
            · have e100 : (((sh[k].toNat : Nat) : Int) == 100) = false := by rw [c99]; rfl
              have e115 : (((sh[k].toNat : Nat) : Int) == 115) = false := by rw [c99]; rfl
              have e116 : (((sh[k].toNat : Nat) : Int) == 116) = false := by rw [c99]; rfl
              have e110 : (((sh[k].toNat : Nat) : Int) == 110) = false := by rw [c99]; rfl
              have e109 : (((sh[k].toNat : Nat) : Int) == 109) = false := by rw [c99]; rfl
              have e99 : (((sh[k].toNat : Nat) : Int) == 99) = true := by rw [c99]; rfl
              cases hr : numberL x.data.toList with
              | none =>
                have hT := HFail.out (by rw [c99]; simp [putD, hr])
                have HNo : Hid (dParse s.data.toList = none) := hide (by rw [HD.out, hT])
                have HR := hide (fun w => num_none x hx hr w)
                clear hr hT
                go_wp2_with (first | ((with_reducible refine ld_str g k x _ _ hg hcx ?_ ?_); exact rfl) | (go_at_call 39; (with_reducible refine (HR.out _).mono ?_); rintro e W2 ⟨⟨n0, rfl⟩, rfl⟩) | ((with_reducible refine st_csr NI _ n0 hi ?_ ?_ ?_); exact rfl; (first | exact rfl | exact HM4.out); intro W hnew ho; replace hq := hq.only ho (by omega); replace hg := hg.only ho (by omega); replace hi := hnew; replace hb := ho.bel _ _ (by omega) hb) | ((with_reducible refine st_ri w.heap.size _ zeroI8 hq ?_ ?_ ?_); exact rfl; exact rfl; intro W hnew ho; replace hi := hi.only ho (by omega); replace hg := hg.only ho (by omega); replace hq := hnew; replace hb := ho.bel _ _ (by omega) hb))
                refine bodyPost_ret (results_cell_tmp_row Tryz.results14 _ _ w.heap.size _ _ _ _ rfl hq Tryz.underlying23 rfl size_ri) rfl ?_
                exact ⟨by rw [HZ.out, HNo.out]; rfl, hb⟩
              | some m =>
                have HT2 := hide (HStep.out { i with csr := m } (by rw [c99]; simp [putD, hr]))
                have HR := hide (fun w => num_some x hx m hr w)
                clear hr
                go_wp2_with (first | ((with_reducible refine ld_str g k x _ _ hg hcx ?_ ?_); exact rfl) | (go_at_call 39; (with_reducible refine (HR.out _).mono ?_); rintro e W2 ⟨rfl, rfl⟩) | ((with_reducible refine st_csr NI _ m hi ?_ ?_ ?_); exact rfl; (first | exact rfl | exact HM4.out); intro W hnew ho; replace hq := hq.only ho (by omega); replace hg := hg.only ho (by omega); replace hi := hnew; replace hb := ho.bel _ _ (by omega) hb))
                go_roundw
                case rel => exact ⟨k + 1, { i with csr := m }, by go_num, by omega, HT2.out, hI, hi, hq, hg, hb⟩
                case measure => simp [RowKit.intOf]; omega
            have e100 : (((sh[k].toNat : Nat) : Int) == 100) = false := by (rw [beq_eq_false_iff_ne]; intro e; exact c100 (UInt8.toNat_inj.1 (by (show sh[k].toNat = 100); omega)))
            have e115 : (((sh[k].toNat : Nat) : Int) == 115) = false := by (rw [beq_eq_false_iff_ne]; intro e; exact c115 (UInt8.toNat_inj.1 (by (show sh[k].toNat = 115); omega)))
            have e116 : (((sh[k].toNat : Nat) : Int) == 116) = false := by (rw [beq_eq_false_iff_ne]; intro e; exact c116 (UInt8.toNat_inj.1 (by (show sh[k].toNat = 116); omega)))
            have e110 : (((sh[k].toNat : Nat) : Int) == 110) = false := by (rw [beq_eq_false_iff_ne]; intro e; exact c110 (UInt8.toNat_inj.1 (by (show sh[k].toNat = 110); omega)))
            have e109 : (((sh[k].toNat : Nat) : Int) == 109) = false := by (rw [beq_eq_false_iff_ne]; intro e; exact c109 (UInt8.toNat_inj.1 (by (show sh[k].toNat = 109); omega)))
            have e99 : (((sh[k].toNat : Nat) : Int) == 99) = false := by (rw [beq_eq_false_iff_ne]; intro e; exact c99 (UInt8.toNat_inj.1 (by (show sh[k].toNat = 99); omega)))
            by_cases o54 : op < 54
            · have t54 : ((op : Int) < 54) := by omega
              cases hr : regD x.data.toList with
              | none =>
                have hT := HFail.out (by simp [putD, c100, c115, c116, c110, c109, c99, o54, hr])
                have HNo : Hid (dParse s.data.toList = none) := hide (by rw [HD.out, hT])
                have HR := hide (fun w => reg_none x hx hr w)
                clear hr hT
                go_wp2_with (first | ((with_reducible refine ld_str g k x _ _ hg hcx ?_ ?_); exact rfl) | (go_at_call 38; (with_reducible refine (HR.out _).mono ?_); rintro e W2 ⟨⟨n0, rfl⟩, rfl⟩) | ((with_reducible refine st_rs1 NI _ n0 hi ?_ ?_ ?_); exact rfl; (first | exact rfl | exact HM4.out); intro W hnew ho; replace hq := hq.only ho (by omega); replace hg := hg.only ho (by omega); replace hi := hnew; replace hb := ho.bel _ _ (by omega) hb) | ((with_reducible refine st_ri w.heap.size _ zeroI8 hq ?_ ?_ ?_); exact rfl; exact rfl; intro W hnew ho; replace hi := hi.only ho (by omega); replace hg := hg.only ho (by omega); replace hq := hnew; replace hb := ho.bel _ _ (by omega) hb))
                refine bodyPost_ret (results_cell_tmp_row Tryz.results14 _ _ w.heap.size _ _ _ _ rfl hq Tryz.underlying23 rfl size_ri) rfl ?_
                exact ⟨by rw [HZ.out, HNo.out]; rfl, hb⟩
              | some m =>
                have HT2 := hide (HStep.out { i with rs1 := m } (by simp [putD, c100, c115, c116, c110, c109, c99, o54, hr]))
                have HR := hide (fun w => reg_some x hx m hr w)
                clear hr
                go_wp2_with (first | ((with_reducible refine ld_str g k x _ _ hg hcx ?_ ?_); exact rfl) | (go_at_call 38; (with_reducible refine (HR.out _).mono ?_); rintro e W2 ⟨rfl, rfl⟩) | ((with_reducible refine st_rs1 NI _ m hi ?_ ?_ ?_); exact rfl; (first | exact rfl | exact HM4.out); intro W hnew ho; replace hq := hq.only ho (by omega); replace hg := hg.only ho (by omega); replace hi := hnew; replace hb := ho.bel _ _ (by omega) hb))
                go_roundw
                case rel => exact ⟨k + 1, { i with rs1 := m }, by go_num, by omega, HT2.out, hI, hi, hq, hg, hb⟩
                case measure => simp [RowKit.intOf]; omega
            · have t54 : decide ((op : Int) < 54) = false := decide_eq_false (by omega)
              cases hr : numberL x.data.toList with
              | none =>
                have hT := HFail.out (by simp [putD, c100, c115, c116, c110, c109, c99, o54, hr])
                have HNo : Hid (dParse s.data.toList = none) := hide (by rw [HD.out, hT])
                have HR := hide (fun w => num_none x hx hr w)
                clear hr hT
                go_wp2_with (first | ((with_reducible refine ld_str g k x _ _ hg hcx ?_ ?_); exact rfl) | (go_at_call 39; (with_reducible refine (HR.out _).mono ?_); rintro e W2 ⟨⟨n0, rfl⟩, rfl⟩) | ((with_reducible refine st_rs1 NI _ n0 hi ?_ ?_ ?_); exact rfl; (first | exact rfl | exact HM4.out); intro W hnew ho; replace hq := hq.only ho (by omega); replace hg := hg.only ho (by omega); replace hi := hnew; replace hb := ho.bel _ _ (by omega) hb) | ((with_reducible refine st_ri w.heap.size _ zeroI8 hq ?_ ?_ ?_); exact rfl; exact rfl; intro W hnew ho; replace hi := hi.only ho (by omega); replace hg := hg.only ho (by omega); replace hq := hnew; replace hb := ho.bel _ _ (by omega) hb))
                refine bodyPost_ret (results_cell_tmp_row Tryz.results14 _ _ w.heap.size _ _ _ _ rfl hq Tryz.underlying23 rfl size_ri) rfl ?_
                exact ⟨by rw [HZ.out, HNo.out]; rfl, hb⟩
              | some m =>
                have HT2 := hide (HStep.out { i with rs1 := m } (by simp [putD, c100, c115, c116, c110, c109, c99, o54, hr]))
                have HR := hide (fun w => num_some x hx m hr w)
                clear hr
                go_wp2_with (first | ((with_reducible refine ld_str g k x _ _ hg hcx ?_ ?_); exact rfl) | (go_at_call 39; (with_reducible refine (HR.out _).mono ?_); rintro e W2 ⟨rfl, rfl⟩) | ((with_reducible refine st_rs1 NI _ m hi ?_ ?_ ?_); exact rfl; (first | exact rfl | exact HM4.out); intro W hnew ho; replace hq := hq.only ho (by omega); replace hg := hg.only ho (by omega); replace hi := hnew; replace hb := ho.bel _ _ (by omega) hb))
                go_roundw
                case rel => exact ⟨k + 1, { i with rs1 := m }, by go_num, by omega, HT2.out, hI, hi, hq, hg, hb⟩
                case measure => simp [RowKit.intOf]; omega
          · obtain rfl : k = sh.size := by omega
            have tk : decide ((sh.size : Int) < (sh.size : Int)) = false := by simp
            have e1 : sh.data.toList.drop sh.size = [] := List.drop_eq_nil_of_le (by simp)
            have e2 : (l.map (·.data.toList)).drop sh.size = [] := List.drop_eq_nil_of_le (by simp; omega)
            rw [e1, e2] at hfd
            have HT : Hid (T = some i) := hide hfd.symm
            clear hfd e1 e2
            have HU : Hid (dParse s.data.toList = if encOk (upD op i) = true then some (upD op i) else none) := hide (by rw [HD.out, HT.out])
            have HKi := hide (fun w => rkind_yes op hlt w)
            by_cases k85 : kindN op = 85
            · have hu : upD op i = { i with imm := i.imm * 4096 } := by unfold upD; rw [if_pos k85]
              rw [hu] at HU
              have u1 : (((kindN op : Nat) : Int) == 85) = true := by (rw [k85]; rfl)
              have HM4 : Hid (Value.int .i64 (wrap64 (i.imm * 4096)) = .int .i64 (i.imm * 4096)) := hide (by congr 1; unfold wrap64; omega)
              have HCk := hide (fun w => rcheck_all ({ i with imm := i.imm * 4096 } : I6) w)
              unfold encN at HCk
              clear hu
              cases hE : encOk ({ i with imm := i.imm * 4096 } : I6) with
              | true =>
                rw [hE] at HU HCk
                have HY : Hid (dParse s.data.toList = some ({ i with imm := i.imm * 4096 })) := hide (by rw [HU.out]; rfl)
                simp only [if_true] at HCk
                go_wp2_with (first | (go_at_call 29; refine (HKi.out _).mono ?_; rintro e W2 ⟨rfl, rfl⟩) | (go_at_call 27; (with_reducible refine (HCk.out _).mono ?_); rintro e W ⟨rfl, hbc⟩; replace hq := hq.bl hbc; replace hi := hi.bl hbc; replace hg := hg.bl hbc; replace hb := below_bl rfl hb hbc) | ((with_reducible refine ld_ri NI _ hi ?_ ?_); exact rfl) | ((with_reducible refine ld_im NI _ hi ?_ ?_); exact rfl) | ((with_reducible refine st_imm NI _ (i.imm * 4096) hi ?_ ?_ ?_); exact rfl; (first | exact rfl | exact HM4.out); intro W hnew ho; replace hq := hq.only ho (by omega); replace hg := hg.only ho (by omega); replace hi := hnew; replace hb := ho.bel _ _ (by omega) hb) | ((with_reducible refine st_ri w.heap.size _ ({ i with imm := i.imm * 4096 }) hq ?_ ?_ ?_); exact rfl; exact rfl; intro W hnew ho; replace hi := hi.only ho (by omega); replace hg := hg.only ho (by omega); replace hq := hnew; replace hb := ho.bel _ _ (by omega) hb))
                refine bodyPost_ret (results_cell_tmp_row Tryz.results14 _ _ w.heap.size _ _ _ _ rfl hq Tryz.underlying23 rfl size_ri) rfl ?_
                exact ⟨by rw [HZ.out, HY.out]; rfl, hb⟩
              | false =>
                rw [hE] at HU HCk
                have HY : Hid (dParse s.data.toList = none) := hide (by rw [HU.out]; rfl)
                simp only [Bool.false_eq_true, if_false] at HCk
                go_wp2_with (first | (go_at_call 29; refine (HKi.out _).mono ?_; rintro e W2 ⟨rfl, rfl⟩) | (go_at_call 27; (with_reducible refine (HCk.out _).mono ?_); rintro e W ⟨rfl, hbc⟩; replace hq := hq.bl hbc; replace hi := hi.bl hbc; replace hg := hg.bl hbc; replace hb := below_bl rfl hb hbc) | ((with_reducible refine ld_ri NI _ hi ?_ ?_); exact rfl) | ((with_reducible refine ld_im NI _ hi ?_ ?_); exact rfl) | ((with_reducible refine st_imm NI _ (i.imm * 4096) hi ?_ ?_ ?_); exact rfl; (first | exact rfl | exact HM4.out); intro W hnew ho; replace hq := hq.only ho (by omega); replace hg := hg.only ho (by omega); replace hi := hnew; replace hb := ho.bel _ _ (by omega) hb) | ((with_reducible refine st_ri w.heap.size _ zeroI8 hq ?_ ?_ ?_); exact rfl; exact rfl; intro W hnew ho; replace hi := hi.only ho (by omega); replace hg := hg.only ho (by omega); replace hq := hnew; replace hb := ho.bel _ _ (by omega) hb))
                refine bodyPost_ret (results_cell_tmp_row Tryz.results14 _ _ w.heap.size _ _ _ _ rfl hq Tryz.underlying23 rfl size_ri) rfl ?_
                exact ⟨by rw [HZ.out, HY.out]; rfl, hb⟩
            · have hu : upD op i = i := by unfold upD; rw [if_neg k85]
              rw [hu] at HU
              have u1 : (((kindN op : Nat) : Int) == 85) = false := by (rw [beq_eq_false_iff_ne]; omega)
              have HCk := hide (fun w => rcheck_all i w)
              unfold encN at HCk
              clear hu
              cases hE : encOk i with
              | true =>
                rw [hE] at HU HCk
                have HY : Hid (dParse s.data.toList = some i) := hide (by rw [HU.out]; rfl)
                simp only [if_true] at HCk
                go_wp2_with (first | (go_at_call 29; refine (HKi.out _).mono ?_; rintro e W2 ⟨rfl, rfl⟩) | (go_at_call 27; (with_reducible refine (HCk.out _).mono ?_); rintro e W ⟨rfl, hbc⟩; replace hq := hq.bl hbc; replace hi := hi.bl hbc; replace hg := hg.bl hbc; replace hb := below_bl rfl hb hbc) | ((with_reducible refine ld_ri NI _ hi ?_ ?_); exact rfl) | ((with_reducible refine st_ri w.heap.size _ i hq ?_ ?_ ?_); exact rfl; exact rfl; intro W hnew ho; replace hi := hi.only ho (by omega); replace hg := hg.only ho (by omega); replace hq := hnew; replace hb := ho.bel _ _ (by omega) hb))
                refine bodyPost_ret (results_cell_tmp_row Tryz.results14 _ _ w.heap.size _ _ _ _ rfl hq Tryz.underlying23 rfl size_ri) rfl ?_
                exact ⟨by rw [HZ.out, HY.out]; rfl, hb⟩
              | false =>
                rw [hE] at HU HCk
                have HY : Hid (dParse s.data.toList = none) := hide (by rw [HU.out]; rfl)
                simp only [Bool.false_eq_true, if_false] at HCk
                go_wp2_with (first | (go_at_call 29; refine (HKi.out _).mono ?_; rintro e W2 ⟨rfl, rfl⟩) | (go_at_call 27; (with_reducible refine (HCk.out _).mono ?_); rintro e W ⟨rfl, hbc⟩; replace hq := hq.bl hbc; replace hi := hi.bl hbc; replace hg := hg.bl hbc; replace hb := below_bl rfl hb hbc) | ((with_reducible refine ld_ri NI _ hi ?_ ?_); exact rfl) | ((with_reducible refine st_ri w.heap.size _ zeroI8 hq ?_ ?_ ?_); exact rfl; exact rfl; intro W hnew ho; replace hi := hi.only ho (by omega); replace hg := hg.only ho (by omega); replace hq := hnew; replace hb := ho.bel _ _ (by omega) hb))
                refine bodyPost_ret (results_cell_tmp_row Tryz.results14 _ _ w.heap.size _ _ _ _ rfl hq Tryz.underlying23 rfl size_ri) rfl ?_
                exact ⟨by rw [HZ.out, HY.out]; rfl, hb⟩
end Go.Proofs.YtoekcfbjdcibpaaGreatDoor
