/-
  Allocs, lists that are written out, and append, as steps of a region. Of no package.
-/
import Derived.Test.YtaaiockiojejeaaGreatDoorJH27
import Derived.Test.YtaaiockiojejeaaGreatDoorJH10
import Derived.Test.YtaaiockiojejeaaGreatDoorJH11
namespace Go.Proofs.YtaaiockiojejeaaGreatDoor
open Go.RowKit
set_option linter.unusedVariables false
set_option linter.unusedSimpArgs false

variable {ops : Array Oper} {rest : List Oper} {dst : Option Tmp} {ty : TypeId} {pos : String} {after : Array Edge} {a : Act} {w : World} {Q : Exit → Act → World → Prop} {x y : Operand} {B : Nat} {v : Value} {gd : Option (Nat × Bool)}
theorem ld_u32c (b : Nat) (v : Int) (t' : TypeId) (hr : RowAt w b #[.int .u32 v] t') (hx : a.eval x = .pointer (some ⟨b, 0, none⟩)) (hw : Region.wanted ⟨dst, .load 22 x, ty, pos, after, gd⟩ (yielded ops a.tmps) = true)
    (k : wpList Tryz.prog ops Q rest (a.put dst (.int .u32 v)) w) : wpList Tryz.prog ops Q (⟨dst, .load 22 x, ty, pos, after, gd⟩ :: rest) a w :=
  op_load_cellg b 0 hx #[.int .u32 v] _ _ hr rfl _ Tryz.underlying22 rfl hw k
theorem castE (a b : Nat) : ((a : Int) == (b : Int)) = (a == b) := by
  by_cases h : a = b
  · subst h; simp
  · have : ((a : Int) == (b : Int)) = false := by simp; omega
    rw [this]; simp [h]
set_option maxHeartbeats 1000000 in
theorem find1_any (q : Rq) (u : Value) (id Ib : Nat) (t' : TypeId) (w : World) (hI : RowAt w Ib #[.int .u32 (id : Nat)] t') :
    Calls Tryz.prog 91 #[.agg (q.c u), .pointer (some ⟨Ib, 0, none⟩)] w fun e w' => e = .returned (.bool (q.id == id)) ∧ Below w.heap.size w w' := by
  have HC := hide (castE q.id id)
  go_enter Tryz.func91, Tryz.ntmps91
  go_wp2_with (first | ((with_reducible refine bx_rq w.heap.size q u ?_ ?_ ?_); exact rfl; exact rfl; intro W hr hb hz; replace hI := hI.bl hb) | ((with_reducible refine ld_qid w.heap.size q _ _ hr ?_ ?_ ?_); exact rfl; exact rfl) | ((with_reducible refine ld_u32c Ib _ _ hI ?_ ?_ ?_); exact rfl; exact rfl))
  go_ret
  exact ⟨by rw [← HC.out]; rfl, hb⟩
/-- None of the first k has the ID. -/
def noId (l : List (Rq × Value)) (id k : Nat) : Prop := ∀ x ∈ l.take k, (x.1.id == id) = false
theorem noId_step {l : List (Rq × Value)} {id k : Nat} {q : Rq × Value} (h : noId l id k) (hq : l[k]? = some q) (hn : (q.1.id == id) = false) : noId l id (k + 1) := by
  intro x hx
  rw [List.take_add_one, hq] at hx
  rcases List.mem_append.1 hx with h1 | h1
  · exact h x h1
  · simp at h1; subst h1; exact hn
theorem noId_hit {l : List (Rq × Value)} {id k : Nat} {q : Rq × Value} (h : noId l id k) (hq : l[k]? = some q) (hn : (q.1.id == id) = true) : idxQ (l.map (·.1)) id = (k : Int) := by
  unfold idxQ
  have hk := (List.getElem?_eq_some_iff.1 hq).1
  have : (l.map (·.1)).findIdx? (fun q => q.id == id) = some k := by
    rw [List.findIdx?_eq_some_iff_getElem]
    refine ⟨by simpa using hk, ?_, ?_⟩
    · simp only [List.getElem_map]
      rw [(List.getElem?_eq_some_iff.1 hq).2]; exact hn
    · intro j hj
      simp only [List.getElem_map, Bool.not_eq_true]
      exact h _ (List.mem_take_iff_getElem.2 ⟨j, by omega, rfl⟩)
  rw [this]
theorem noId_none {l : List (Rq × Value)} {id : Nat} (h : noId l id l.length) : idxQ (l.map (·.1)) id = -1 := by
  unfold idxQ
  have : (l.map (·.1)).findIdx? (fun q => q.id == id) = none := by
    rw [List.findIdx?_eq_none_iff]
    intro q hq
    obtain ⟨x, hx, rfl⟩ := List.mem_map.1 hq
    exact h x (by rwa [List.take_length])
  rw [this]
set_option maxHeartbeats 2000000 in
theorem idxr_any (l : List (Rq × Value)) (hl : l.length ≤ 1000000) (id Ib : Nat) (t' : TypeId) {w : World} {B : Nat} {v : Value} (hI : RowAt w Ib #[.int .u32 (id : Nat)] t') (hL : w.ownsRow B 102 6 v l.length (reqL l)) :
    Calls Tryz.prog 90 #[v, .func (.func 91) #[] #[.pointer (some ⟨Ib, 0, none⟩)]] w fun e w' => e = .returned (.int .i64 (idxQ (l.map (·.1)) id)) ∧ Below w.heap.size w w' := by
  have HI := hide hI
  have HL := hide hL
  obtain ⟨n, hn⟩ : ∃ n, l.length = n := ⟨_, rfl⟩
  have HN := hide hn
  rw [hn] at hl
  obtain ⟨av, cap, rfl, hc1, hc2⟩ := own_form hL
  rw [hn] at hc1 ⊢
  obtain ⟨z, hz⟩ : ∃ z, idxQ (l.map (·.1)) id = z := ⟨_, rfl⟩
  have HZ := hide hz
  rw [hz]
  clear hI hL hn hz
  go_enter Tryz.func90, Tryz.ntmps90
  go_wp2
  go_loopw [8] (fun iv wr => ∃ (k : Nat), k ≤ n ∧ iv = .int .i64 (k : Nat) ∧ noId l id k ∧ Below w.heap.size w wr) (fun iv _ => n - (intOf iv).toNat)
  case atStart => exact ⟨0, Nat.zero_le _, rfl, (fun x hx => by simp at hx), Below.refl _ _⟩
  case round =>
    obtain ⟨k, hk, rfl, hod, hb⟩ := hrel
    have HOD := hide hod
    clear hod
    by_cases hlt : k < n
    · obtain ⟨gb, cap', cur, hve, _, _, _, hLr0, _, htk⟩ := own_row (own_bel HL.out hb) (show 0 < l.length by rw [HN.out]; omega)
      obtain ⟨rfl, rfl⟩ : av = some ⟨gb, 0, none⟩ ∧ cap = cap' := by injection hve with e1 e2 e3; exact ⟨e1, e3⟩
      have hLr := hLr0
      obtain ⟨s, hs⟩ : ∃ s, l[k]? = some s := ⟨_, List.getElem?_eq_getElem (by rw [HN.out]; exact hlt)⟩
      have hmid := mid_r htk hs
      have HS := hide hs
      have HC : Hid (Calls Tryz.prog 91 #[.agg (s.1.c s.2), .pointer (some ⟨Ib, 0, none⟩)] wr fun e w' => e = .returned (.bool (s.1.id == id)) ∧ Below wr.heap.size wr w') := hide (find1_any s.1 s.2 id Ib t' wr (HI.out.bl hb))
      obtain ⟨bo, hbo⟩ : ∃ x, (s.1.id == id) = x := ⟨_, rfl⟩
      rw [hbo] at HC
      have HBO := hide hbo
      clear hs hbo htk hve
      cases bo with
      | true =>
        go_wp2_with (first | ((with_reducible refine ld_rm gb (k * 6) s.1 s.2 cur _ hLr hmid ?_ ?_); exact rfl) | (go_at_call 91; (with_reducible refine HC.out.mono ?_); rintro e W2 ⟨rfl, hb2⟩))
        go_ret
        exact ⟨by rw [← HZ.out, noId_hit HOD.out HS.out HBO.out]; rfl, hb.trans (hb2.mono hb.size)⟩
      | false =>
        go_wp2_with (first | ((with_reducible refine ld_rm gb (k * 6) s.1 s.2 cur _ hLr hmid ?_ ?_); exact rfl) | (go_at_call 91; (with_reducible refine HC.out.mono ?_); rintro e W2 ⟨rfl, hb2⟩))
        go_roundw
        case rel => exact ⟨k + 1, hlt, by go_num, noId_step HOD.out HS.out HBO.out, hb.trans (hb2.mono hb.size)⟩
        case measure => simp [intOf]; omega
    · obtain rfl : k = n := by omega
      go_wp2
      go_ret
      exact ⟨by rw [← HZ.out, noId_none (by rw [HN.out]; exact HOD.out)]; rfl, hb⟩
set_option maxHeartbeats 1000000 in
theorem bfind_any (l : List (Rq × Value)) (hl : l.length ≤ 1000000) (id : Nat) {w : World} {B : Nat} {v : Value} (hL : w.ownsRow B 102 6 v l.length (reqL l)) :
    Calls Tryz.prog 47 #[v, .int .u32 (id : Nat)] w fun e w' => e = .returned (.int .i64 (idxQ (l.map (·.1)) id)) ∧ Below w.heap.size w w' := by
  have HX : Hid (∀ W t', RowAt W w.heap.size #[.int .u32 (id : Nat)] t' → W.ownsRow B 102 6 v l.length (reqL l) → Calls Tryz.prog 90 #[v, .func (.func 91) #[] #[.pointer (some ⟨w.heap.size, 0, none⟩)]] W fun e w' => e = .returned (.int .i64 (idxQ (l.map (·.1)) id)) ∧ Below W.heap.size W w') := hide (fun W t' hI hL => idxr_any l hl id w.heap.size t' hI hL)
  generalize idxQ (l.map (·.1)) id = z at *
  go_enter Tryz.func47, Tryz.ntmps47
  go_wp2_with (first | ((with_reducible refine op_box1 w.heap.size ?_ (.int .u32 (id : Nat)) ?_ rfl ?_); exact rfl; exact rfl; intro W hr hb hz; replace hL := own_bel hL hb) | (go_at_call 90; (with_reducible refine (HX.out _ _ hr hL).mono ?_); rintro e W2 ⟨rfl, hb2⟩; replace hb := hb.trans (hb2.mono hb.size)))
  go_ret
  exact ⟨rfl, hb⟩
end Go.Proofs.YtaaiockiojejeaaGreatDoor
namespace Go.Proofs.YtaaiockiojejeaaGreatDoor
open Go.RowKit
set_option linter.unusedVariables false
set_option linter.unusedSimpArgs false

set_option maxHeartbeats 1000000 in
theorem isdata_any (n : Int) (h0 : -9223372036854775808 ≤ n) (h1 : n ≤ 9223372036854775807) (w : World) :
    Calls Tryz.prog 102 #[.int .i64 n] w fun e w' => e = .returned (.bool (isDat n)) ∧ w' = w := by
  unfold isDat
  by_cases hp : 0 < n
  · obtain ⟨m, rfl⟩ := Int.eq_ofNat_of_zero_le (show 0 ≤ n by omega)
    have t0 : decide (0 < (m : Int)) = true := by simpa using hp
    rw [t0, Bool.true_and]
    have e1 : IntKind.i64.wrap ((m : Int).tmod 512) = (m : Int) % 512 := by rw [Int.tmod_eq_emod_of_nonneg (by omega), IntKind.wrap_i64]; omega
    have e2 : (m : Int).tmod 512 = (m : Int) % 512 := Int.tmod_eq_emod_of_nonneg (by omega)
    have e3 : (((m : Int) % 512) == 0) = decide ((m : Int) % 512 = 0) := by
      by_cases h : (m : Int) % 512 = 0 <;> simp [h]
    have E3 := hide e3
    clear e3
    go_enter Tryz.func102, Tryz.ntmps102
    go_wp2
    go_ret
    exact ⟨by rw [← E3.out]; rfl, rfl⟩
  · have t0 : decide (0 < n) = false := by simpa using hp
    rw [t0, Bool.false_and]
    go_enter Tryz.func102, Tryz.ntmps102
    go_wp2
    go_ret
    exact ⟨rfl, rfl⟩
set_option maxHeartbeats 1000000 in
theorem iswithin_any (sc se n : Nat) (hsc : sc < 4294967296) (hse : se < 18446744073709551616) (hn : n < 9223372036854775808) (w : World) :
    Calls Tryz.prog 76 #[.int .u32 (sc : Nat), .int .u64 (se : Nat), .int .i64 (n : Nat)] w fun e w' => e = .returned (.bool (isWit sc se n)) ∧ w' = w := by
  unfold isWit
  have e1 : IntKind.i64.wrap ((n : Int).tdiv 512) = ((n / 512 : Nat) : Int) := by rw [Int.tdiv_eq_ediv_of_nonneg (by omega), IntKind.wrap_i64]; omega
  have e2 : (n : Int).tdiv 512 = ((n / 512 : Nat) : Int) := by rw [Int.tdiv_eq_ediv_of_nonneg (by omega)]; omega
  have e0 : IntKind.u64.wrap (sc : Int) = (sc : Int) := by rw [IntKind.wrap_u64]; omega
  have e5 : IntKind.u64.wrap ((n / 512 : Nat) : Int) = ((n / 512 : Nat) : Int) := by rw [IntKind.wrap_u64]; omega
  have e7 : wrap64 ((n / 512 : Nat) : Int) = ((n / 512 : Nat) : Int) := by unfold wrap64; omega
  by_cases hp : se ≤ sc
  · have t0 : decide ((se : Int) ≤ (sc : Int)) = true := by simp; omega
    have t1 : decide (se ≤ sc) = true := by simpa using hp
    rw [t1, Bool.true_and]
    have e3 : IntKind.u64.wrap ((sc : Int) - (se : Int)) = ((sc - se : Nat) : Int) := by rw [IntKind.wrap_u64]; omega
    have e4 : ((sc : Int) - (se : Int)) % 18446744073709551616 = ((sc - se : Nat) : Int) := by omega
    have e6 : Hid (decide (((n / 512 : Nat) : Int) ≤ ((sc - se : Nat) : Int)) = decide (n / 512 ≤ sc - se)) := hide (by simp only [Int.ofNat_le])
    generalize n / 512 = q at *
    obtain ⟨d, hd⟩ : ∃ d, sc - se = d := ⟨_, rfl⟩
    rw [hd] at e3 e4 e6 ⊢
    clear hd
    go_enter Tryz.func76, Tryz.ntmps76
    go_wp2
    go_ret
    exact ⟨by first | rfl | (rw [← e6.out]; rfl), rfl⟩
  · have t0 : decide ((se : Int) ≤ (sc : Int)) = false := by simp; omega
    have t1 : decide (se ≤ sc) = false := by simpa using hp
    rw [t1, Bool.false_and]
    generalize n / 512 = q at *
    go_enter Tryz.func76, Tryz.ntmps76
    go_wp2
    go_ret
    exact ⟨rfl, rfl⟩
set_option maxHeartbeats 1000000 in
theorem moves_any (c : Ch) (v : Value) (w : World) :
    Calls Tryz.prog 74 #[.agg (c.c v)] w fun e w' => e = .returned (.bool c.mov) ∧ Below w.heap.size w w' := by
  by_cases h0 : c.kd = 0
  · have hm : c.mov = true := by simp [Ch.mov, h0]
    have t0 : ((c.kd : Int) == 0) = true := by simp; omega
    rw [hm]
    clear h0 hm
    go_enter Tryz.func74, Tryz.ntmps74
    go_wp2_with (first | ((with_reducible refine bx_ch w.heap.size c v ?_ ?_ ?_); exact rfl; exact rfl; intro W hr hb hz) | ((with_reducible refine ld_ckd w.heap.size c _ _ hr ?_ ?_ ?_); exact rfl; exact rfl))
    go_ret
    exact ⟨rfl, hb⟩
  · have t0 : ((c.kd : Int) == 0) = false := by simp; omega
    by_cases h1 : c.kd = 1
    · have hm : c.mov = true := by simp [Ch.mov, h1]
      have t1 : ((c.kd : Int) == 1) = true := by simp; omega
      rw [hm]
      clear h0 h1 hm
      go_enter Tryz.func74, Tryz.ntmps74
      go_wp2_with (first | ((with_reducible refine bx_ch w.heap.size c v ?_ ?_ ?_); exact rfl; exact rfl; intro W hr hb hz) | ((with_reducible refine ld_ckd w.heap.size c _ _ hr ?_ ?_ ?_); exact rfl; exact rfl))
      go_ret
      exact ⟨rfl, hb⟩
    · have hm : c.mov = false := by simp [Ch.mov, h0, h1]
      have t1 : ((c.kd : Int) == 1) = false := by simp; omega
      rw [hm]
      clear h0 h1 hm
      go_enter Tryz.func74, Tryz.ntmps74
      go_wp2_with (first | ((with_reducible refine bx_ch w.heap.size c v ?_ ?_ ?_); exact rfl; exact rfl; intro W hr hb hz) | ((with_reducible refine ld_ckd w.heap.size c _ _ hr ?_ ?_ ?_); exact rfl; exact rfl))
      go_ret
      exact ⟨rfl, hb⟩
set_option maxHeartbeats 1000000 in
theorem databytes_any (c : Ch) (v : Value) (hr0 : 0 ≤ c.rd) (hr1 : c.rd ≤ 9223372036854775807) (hw0 : 0 ≤ c.wr) (hw1 : c.wr ≤ 9223372036854775807) (w : World) :
    Calls Tryz.prog 77 #[.agg (c.c v)] w fun e w' => e = .returned (.int .i64 c.dat) ∧ Below w.heap.size w w' := by
  by_cases h1 : c.kd = 1
  · have hm : c.dat = c.rd - 16 := by simp [Ch.dat, h1]
    have t1 : ((c.kd : Int) == 1) = true := by simp; omega
    rw [hm]
    clear h1 hm
    go_enter Tryz.func77, Tryz.ntmps77
    go_wp2_with (first | ((with_reducible refine bx_ch w.heap.size c v ?_ ?_ ?_); exact rfl; exact rfl; intro W hr hb hz) | ((with_reducible refine ld_ckd w.heap.size c _ _ hr ?_ ?_ ?_); exact rfl; exact rfl) | ((with_reducible refine ld_crd w.heap.size c _ _ hr ?_ ?_ ?_); exact rfl; exact rfl) | ((with_reducible refine ld_cwr w.heap.size c _ _ hr ?_ ?_ ?_); exact rfl; exact rfl))
    go_ret
    exact ⟨rfl, hb⟩
  · have hm : c.dat = c.wr - 1 := by simp [Ch.dat, h1]
    have t1 : ((c.kd : Int) == 1) = false := by simp; omega
    rw [hm]
    clear h1 hm
    go_enter Tryz.func77, Tryz.ntmps77
    go_wp2_with (first | ((with_reducible refine bx_ch w.heap.size c v ?_ ?_ ?_); exact rfl; exact rfl; intro W hr hb hz) | ((with_reducible refine ld_ckd w.heap.size c _ _ hr ?_ ?_ ?_); exact rfl; exact rfl) | ((with_reducible refine ld_crd w.heap.size c _ _ hr ?_ ?_ ?_); exact rfl; exact rfl) | ((with_reducible refine ld_cwr w.heap.size c _ _ hr ?_ ?_ ?_); exact rfl; exact rfl))
    go_ret
    exact ⟨rfl, hb⟩
set_option maxHeartbeats 1000000 in
theorem fits_any (c : Ch) (v : Value) (hr0 : 0 ≤ c.rd) (hr1 : c.rd ≤ 9223372036854775807) (hw0 : 0 ≤ c.wr) (hw1 : c.wr ≤ 9223372036854775807) (w : World) :
    Calls Tryz.prog 75 #[.agg (c.c v)] w fun e w' => e = .returned (.bool c.fit) ∧ Below w.heap.size w w' := by
  have HD := hide (fun w => databytes_any c v hr0 hr1 hw0 hw1 w)
  have HI : Hid (∀ w, Calls Tryz.prog 102 #[.int .i64 c.dat] w fun e w' => e = .returned (.bool (isDat c.dat)) ∧ w' = w) := hide (fun w => isdata_any c.dat (by unfold Ch.dat; split <;> omega) (by unfold Ch.dat; split <;> omega) w)
  unfold Ch.fit
  generalize isDat c.dat = bo at HI ⊢
  generalize c.dat = da at HD HI ⊢
  by_cases h0 : c.kd = 0
  · have t0 : ((c.kd : Int) == 0) = true := by simp; omega
    by_cases h1 : c.rd = 16
    · have hm : ((!decide (c.kd = 0) || decide (c.rd = 16)) && bo) = bo := by simp [h0, h1]
      have t1 : (c.rd != 16) = false := by simp [h1]
      have t2 : (c.rd == 16) = true := by simp [h1]
      rw [hm]
      clear h0 h1 hm
      go_enter Tryz.func75, Tryz.ntmps75
      go_wp2_with (first | ((with_reducible refine bx_ch w.heap.size c v ?_ ?_ ?_); exact rfl; exact rfl; intro W hr hb hz) | ((with_reducible refine ld_ckd w.heap.size c _ _ hr ?_ ?_ ?_); exact rfl; exact rfl) | ((with_reducible refine ld_crd w.heap.size c _ _ hr ?_ ?_ ?_); exact rfl; exact rfl) | ((with_reducible refine ld_ch w.heap.size c _ hr ?_ ?_ ?_); exact rfl; exact rfl) | (go_at_call 77; (with_reducible refine (HD.out _).mono ?_); rintro e W ⟨rfl, hbc⟩; replace hr := hr.bl hbc; replace hb := below_bl rfl hb hbc) | (go_at_call 102; (with_reducible refine (HI.out _).mono ?_); rintro e W2 ⟨rfl, rfl⟩))
      go_ret
      exact ⟨rfl, hb⟩
    · have hm : ((!decide (c.kd = 0) || decide (c.rd = 16)) && bo) = false := by simp [h0, h1]
      have t1 : (c.rd != 16) = true := by simp [h1]
      have t2 : (c.rd == 16) = false := by simp [h1]
      rw [hm]
      clear h0 h1 hm
      go_enter Tryz.func75, Tryz.ntmps75
      go_wp2_with (first | ((with_reducible refine bx_ch w.heap.size c v ?_ ?_ ?_); exact rfl; exact rfl; intro W hr hb hz) | ((with_reducible refine ld_ckd w.heap.size c _ _ hr ?_ ?_ ?_); exact rfl; exact rfl) | ((with_reducible refine ld_crd w.heap.size c _ _ hr ?_ ?_ ?_); exact rfl; exact rfl) | ((with_reducible refine ld_ch w.heap.size c _ hr ?_ ?_ ?_); exact rfl; exact rfl) | (go_at_call 77; (with_reducible refine (HD.out _).mono ?_); rintro e W ⟨rfl, hbc⟩; replace hr := hr.bl hbc; replace hb := below_bl rfl hb hbc) | (go_at_call 102; (with_reducible refine (HI.out _).mono ?_); rintro e W2 ⟨rfl, rfl⟩))
      go_ret
      exact ⟨rfl, hb⟩
  · have t0 : ((c.kd : Int) == 0) = false := by simp; omega
    have hm : ((!decide (c.kd = 0) || decide (c.rd = 16)) && bo) = bo := by simp [h0]
    rw [hm]
    clear h0 hm
    go_enter Tryz.func75, Tryz.ntmps75
    go_wp2_with (first | ((with_reducible refine bx_ch w.heap.size c v ?_ ?_ ?_); exact rfl; exact rfl; intro W hr hb hz) | ((with_reducible refine ld_ckd w.heap.size c _ _ hr ?_ ?_ ?_); exact rfl; exact rfl) | ((with_reducible refine ld_crd w.heap.size c _ _ hr ?_ ?_ ?_); exact rfl; exact rfl) | ((with_reducible refine ld_ch w.heap.size c _ hr ?_ ?_ ?_); exact rfl; exact rfl) | (go_at_call 77; (with_reducible refine (HD.out _).mono ?_); rintro e W ⟨rfl, hbc⟩; replace hr := hr.bl hbc; replace hb := below_bl rfl hb hbc) | (go_at_call 102; (with_reducible refine (HI.out _).mono ?_); rintro e W2 ⟨rfl, rfl⟩))
    go_ret
    exact ⟨rfl, hb⟩
attribute [local go_sem] Rq.at2 Rq.at4
set_option maxHeartbeats 1000000 in
theorem ansbytes_any (c : Rq) (v : Value) (w : World) :
    Calls Tryz.prog 48 #[.agg (c.c v)] w fun e w' => e = .returned (.int .i64 (if c.wr = true then 0 else c.n)) ∧ Below w.heap.size w w' := by
  by_cases h1 : c.wr = true
  · rw [if_pos h1]
    go_enter Tryz.func48, Tryz.ntmps48
    go_wp2_with (first | ((with_reducible refine bx_rq w.heap.size c v ?_ ?_ ?_); exact rfl; exact rfl; intro W hr hb hz; have fx := hr.cell))
    go_ret
    exact ⟨rfl, hb⟩
  · rw [if_neg h1]
    have h2 : c.wr = false := by simpa using h1
    clear h1
    go_enter Tryz.func48, Tryz.ntmps48
    go_wp2_with (first | ((with_reducible refine bx_rq w.heap.size c v ?_ ?_ ?_); exact rfl; exact rfl; intro W hr hb hz; have fx := hr.cell))
    go_ret
    exact ⟨rfl, hb⟩
set_option maxHeartbeats 1000000 in
theorem failed_any (s : Bk) (ok : s.p.Ok) (v : Value) (hv : v.oneCell' = true) (w : World) :
    Calls Tryz.prog 32 #[.agg (s.c v)] w fun e w' => e = .returned (.agg (s.fail.c v)) ∧ Below w.heap.size w w' := by
  have HF := hide (fun w => fail_any s.p ok w)
  go_enter Tryz.func32, Tryz.ntmps32
  go_wp2_with (first | ((with_reducible refine bx_bk w.heap.size s v ?_ ?_ ?_); exact rfl; exact rfl; intro W hr hb hz) | ((with_reducible refine al_bk (w.heap.size + 1) ?_ ?_); exact hz.out; intro W hq hb' hz'; replace hr := hr.bl (hz.out ▸ hb'); replace hb := hb.trans (hb'.mono (by omega)); replace hz := hz') | ((with_reducible refine ld_bp w.heap.size s _ _ hr ?_ ?_ ?_); exact rfl; exact rfl) | (go_at_call 68; (with_reducible refine (HF.out _).mono ?_); rintro e W ⟨rfl, hbc⟩; replace hr := hr.bl hbc; replace hq := hq.bl hbc; replace hb := below_bl rfl hb hbc) | ((with_reducible refine st_bp w.heap.size s _ (failV s.p) _ hr ?_ ?_ ?_); exact rfl; exact rfl; intro W hnew ho; replace hq := hq.only ho (by omega); replace hr := hnew; replace hb := ho.bel _ _ (by omega) hb) | ((with_reducible refine ld_bk w.heap.size (s.pw (failV s.p)) _ hr ?_ ?_ ?_); exact rfl; exact rfl) | ((with_reducible refine st_bk (w.heap.size + 1) _ _ (s.pw (failV s.p)) v hv hq ?_ ?_ ?_); exact rfl; exact rfl; intro W hnew ho; replace hr := hr.only ho (by omega); replace hq := hnew; replace hb := ho.bel _ _ (by omega) hb))
  refine bodyPost_ret (results_cell_row Tryz.results32 _ _ (w.heap.size + 1) _ _ _ _ rfl hq Tryz.underlying53 rfl size_bk) rfl ?_
  exact ⟨rfl, hb⟩
end Go.Proofs.YtaaiockiojejeaaGreatDoor
namespace Go.Proofs.YtaaiockiojejeaaGreatDoor
open Go.RowKit
set_option linter.unusedVariables false
set_option linter.unusedSimpArgs false

variable {P : Program} {ops : Array Oper} {rest : List Oper} {dst : Option Tmp} {ty t : TypeId} {pos : String} {after : Array Edge} {a : Act} {w : World} {Q : Exit → Act → World → Prop} {x y : Operand} {B : Nat} {v : Value} {gd : Option (Nat × Bool)} {K : Act → World → Prop}
/-- A cell is read, as a step of a region. -/
theorem s_ldc (b j : Nat) (hx : a.eval x = .pointer (some ⟨b, j, none⟩)) (cs : Array Value) (v : Value) (t' : TypeId) (hr : RowAt w b cs t') (hv : cs[j]? = some v) (d : TypeDesc) (hu : P.underlying t = some d) (hd : d.isRow = false)
    (k : K (a.put dst v) w) : Oper.wp P ⟨dst, .load t x, ty, pos, after, none⟩ a w K Q := by
  have hcell : w.cell? ⟨b, j, none⟩ = some v := (hr.cell j).trans hv
  have hrun : (loadVar t ⟨b, j, none⟩).run P w = .ok v w := by
    have hagg : (isAgg t).run P w = .ok false w := by
      unfold isAgg
      rw [Sem.run_bind, run_underlying hu w]
      cases d <;> simp_all
    simp [loadVar, Sem.run_bind, hagg, hcell]
  unfold Oper.wp execOp
  simp only [hx, Instr.loadAt, Instr.sureAddr, Sem.run_bind, Sem.run_pure, Result.andThen_ok, hrun]
  exact k
/-- A cell is stored, as a step of a region. -/
theorem s_stc (b j : Nat) (hx : a.eval x = .pointer (some ⟨b, j, none⟩)) (v : Value) (hy : a.eval y = v) (old : Array Value) (t' : TypeId) (hr : RowAt w b old t') (hi : (P.info? t).map (·.size) = some 1) (hs : j < old.size) (h1 : v.oneCell' = true)
    (k : ∀ W, RowAt W b (old.setIfInBounds j v) t' → Only b w W → K (a.put dst undef) W) : Oper.wp P ⟨dst, .store t x y, ty, pos, after, none⟩ a w K Q := by
  have hth := hr.thereAt j 1 (by omega)
  have := run_storeCells_cells (P := P) b j [v] 0 w (fun i hi => by simpa using (hth i (by simpa using hi)).1) (fun i hi => by simpa using (hth i (by simpa using hi)).2) (fun u hu => by simp at hu; subst hu; exact h1)
  have hc : v.cells = #[v] := by cases v <;> first | rfl | cases h1
  have hrun : (storeVar t ⟨b, j, none⟩ v).run P w = .ok () (w.setCells b j [v]) := by
    cases hq : P.info? t with
    | none => simp [hq] at hi
    | some i =>
      have hs : i.size = 1 := by simp [hq] at hi; omega
      simp only [Nat.add_zero] at this
      simp [storeVar, sizeOf, typeInfo, hq, hc, hs, this]
  unfold Oper.wp execOp
  simp only [hx, hy, Instr.storeAt, Instr.sureAddr, Sem.run_bind, Sem.run_pure, Result.andThen_ok, hrun]
  exact k _ (hr.put j v) (only_setCells b j [v] w)
theorem own_ty {w : World} {B e sz n g : Nat} {v : Value} {xs : List Value} {cs : Array Value} {t : TypeId} (h : w.ownsRow B e sz v n xs) (hg : v.ownBlock = some g) (hr : RowAt w g cs t) : t = e := by
  rcases h.2 with ⟨h1, _⟩ | ⟨g', cap, cur, h1, _, h3, _⟩
  · subst h1; cases hg
  · subst h1
    cases hg
    have := hr.symm.trans h3
    simp at this
    exact this.2
theorem own_set {w W : World} {B e sz n g j : Nat} {v u : Value} {xs : List Value} {cur : Array Value} (h : w.ownsRow B e sz v n xs) (hg : v.ownBlock = some g) (hr : RowAt w g cur e) (hw : RowAt W g (cur.setIfInBounds j u) e) : W.ownsRow B e sz v n (xs.set j u) := by
  refine ⟨by rw [List.length_set]; exact h.1, ?_⟩
  rcases h.2 with ⟨h1, h2⟩ | ⟨g', cap, cur', h1, h2, h3, h4, h5, h6, h7⟩
  · subst h1; cases hg
  · subst h1
    cases hg
    have e1 := hr.symm.trans h3
    simp at e1
    subst e1
    refine .inr ⟨g', cap, cur.setIfInBounds j u, rfl, h2, hw, h4, h5, by simpa using h6, ?_⟩
    rw [Array.toList_setIfInBounds, List.take_set, h7]
theorem reqL_set : ∀ (l : List (Rq × Value)) (k : Nat) (q : Rq) (v u : Value), l[k]? = some (q, v) → (reqL l).set (k * 6 + 5) u = reqL (l.set k (q, u))
  | [], k, q, v, u, h => by simp at h
  | x :: t, 0, q, v, u, h => by
    simp only [List.getElem?_cons_zero, Option.some.injEq] at h
    subst h
    show ((q.c v).toList ++ reqL t).set 5 u = (q.c u).toList ++ reqL t
    rw [List.set_append_left _ _ (by show 5 < 6; decide)]
    rfl
  | x :: t, k + 1, q, v, u, h => by
    have ih := reqL_set t k q v u (by simpa using h)
    show ((x.1.c x.2).toList ++ reqL t).set ((k + 1) * 6 + 5) u = (x.1.c x.2).toList ++ reqL (t.set k (q, u))
    rw [List.set_append_right _ _ (by show 6 ≤ _; omega), show (k + 1) * 6 + 5 - (x.1.c x.2).toList.length = k * 6 + 5 by show (k + 1) * 6 + 5 - 6 = _; omega, ih]
theorem InAt.off {w : World} {B : Nat} {O O' : Nat → Prop} {v : Value} {l : List (Rq × Value)} (h : InAt w B O v l) (hO : ∀ x, O' x → x < B) : InAt w B O' v l :=
  ⟨h.row, h.own, fun g hg k => absurd (hO g k) (by have := (h.row.lt g hg).1; omega), fun x hx g hg k => absurd (hO g k) (by have := ((h.own x hx).lt g hg).1; omega)⟩
/-- The first k have parts of their own from N on; the others what they had. -/
structure Half (w w0 : World) (N B : Nat) (l xs : List (Rq × Value)) (k : Nat) : Prop where
  len : xs.length = l.length
  fst : xs.map (·.1) = l.map (·.1)
  new : ∀ j x, j < k → xs[j]? = some x → w.ownsRow N 103 3 x.2 x.1.l.length (segL x.1.l)
  old : ∀ j x, k ≤ j → xs[j]? = some x → l[j]? = some x
  one : ∀ x ∈ xs, x.2.oneCell' = true
theorem Half.bl {w w' w0 : World} {N B k : Nat} {l xs : List (Rq × Value)} (h : Half w w0 N B l xs k) (hb : Below w.heap.size w w') : Half w' w0 N B l xs k :=
  ⟨h.len, h.fst, fun j x hj hx => own_bel (h.new j x hj hx) hb, h.old, h.one⟩
theorem Half.step {w W w0 : World} {N B k g : Nat} {l xs : List (Rq × Value)} {q : Rq} {v u : Value} {cs : Array Value} (h : Half w w0 N B l xs k) (hk : xs[k]? = some (q, v)) (hu : w.ownsRow N 103 3 u q.l.length (segL q.l)) (hr : RowAt w g cs 102) (ho : Only g w W) : Half W w0 N B l (xs.set k (q, u)) (k + 1) := by
  have hg : ∀ {v n ys}, w.ownsRow N 103 3 v n ys → v.ownBlock ≠ some g := fun h e => absurd (own_ty h e hr) (by decide)
  have hkl := (List.getElem?_eq_some_iff.1 hk).1
  refine ⟨by rw [List.length_set]; exact h.len, ?_, fun j x hj hx => ?_, fun j x hj hx => ?_, fun x hx => ?_⟩
  · rw [← h.fst, List.map_set]
    apply List.ext_getElem?
    intro j
    rw [List.getElem?_set]
    by_cases e : k = j
    · subst e
      rw [if_pos rfl, if_pos (by simpa using hkl), List.getElem?_map, hk]; rfl
    · rw [if_neg e]
  · rw [List.getElem?_set] at hx
    by_cases e : k = j
    · rw [if_pos e, if_pos hkl] at hx
      cases hx
      exact own_only hu ho (hg hu)
    · rw [if_neg e] at hx
      have := h.new j x (by omega) hx
      exact own_only this ho (hg this)
  · rw [List.getElem?_set, if_neg (by omega)] at hx
    exact h.old j x (by omega) hx
  · rcases List.mem_or_eq_of_mem_set hx with h1 | h1
    · exact h.one x h1
    · rw [h1]; exact own_one hu
set_option maxHeartbeats 4000000 in
theorem bclone_any (s : Bk) (l : List (Rq × Value)) (hl : l.length ≤ 1000) (hll : ∀ x ∈ l, x.1.l.length ≤ 1000) {w : World} {B : Nat} {O : Nat → Prop} {v : Value} (h : InAt w B O v l) :
    Calls Tryz.prog 29 #[.agg (s.c v)] w fun e w' => ∃ v', e = .returned (.agg (s.c v')) ∧ ∃ l', l'.map (·.1) = l.map (·.1) ∧ InAt w' w.heap.size (fun _ => False) v' l' ∧ Below w.heap.size w w' := by
  have HC : Hid (∀ W, Below w.heap.size w W → Calls Tryz.prog 63 #[v] W fun e w' => ∃ v', e = .returned v' ∧ w'.ownsRow W.heap.size 102 6 v' l.length (reqL l) ∧ Below W.heap.size W w') := hide (fun W hb => clone_r l.length (reqL l) h.ones (by omega) (own_bel h.row hb))
  have hv1 := own_one h.row
  have HH := hide h
  obtain ⟨n, hn⟩ : ∃ n, l.length = n := ⟨_, rfl⟩
  have HN := hide hn
  rw [hn] at HC hl
  clear h hn
  go_enter Tryz.func29, Tryz.ntmps29
  go_wp2_with (first | ((with_reducible refine bx_bk w.heap.size s v ?_ ?_ ?_); exact rfl; exact rfl; intro W hr hb hz) | ((with_reducible refine al_bk (w.heap.size + 1) ?_ ?_); exact hz.out; intro W hq hb' hz'; replace hr := hr.bl (hz.out ▸ hb'); replace hb := hb.trans (hb'.mono (by omega)); replace hz := hz'; have hS : w.heap.size + 2 ≤ W.heap.size := Nat.le_of_eq hz.out.symm; clear hz hz' hb') | ((with_reducible refine ld_bin w.heap.size s _ _ hr ?_ ?_ ?_); exact rfl; exact rfl) | (go_at_call 63; (with_reducible refine (HC.out _ hb).mono ?_); rintro e W2 ⟨v1, rfl, hv, hbc⟩; replace hv := own_lower2 hv hS; obtain ⟨a1, c1, rfl, hc1, hc2⟩ := own_form hv; replace hr := hr.bl hbc; replace hq := hq.bl hbc; replace hb := hb.trans (hbc.mono hb.size); replace hS := Nat.le_trans hS hbc.size; clear hbc) | ((with_reducible refine st_bin w.heap.size s _ (.slice a1 n c1) rfl _ hr ?_ ?_ ?_); exact rfl; exact rfl; intro W hnew ho; replace hq := hq.only ho (by omega); replace hv := own_only hv ho (fun e => absurd (hv.lt _ e).1 (by omega)); replace hb := ho.bel _ _ (by omega) hb; replace hS := (show w.heap.size + 2 ≤ W.heap.size by rw [ho.size]; exact hS); replace hr := hnew; clear hnew ho))
  go_loopw [11] (fun iv wr => ∃ (k : Nat) (xs : List (Rq × Value)), k ≤ n ∧ iv = .int .i64 (k : Nat) ∧ RowAt wr w.heap.size (s.c (.slice a1 n c1)) 53 ∧ RowAt wr (w.heap.size + 1) (zeroBk.c nilS) 53 ∧ wr.ownsRow (w.heap.size + 2) 102 6 (.slice a1 n c1) n (reqL xs) ∧ Half wr w (w.heap.size + 2) B l xs k ∧ Below w.heap.size w wr ∧ w.heap.size + 2 ≤ wr.heap.size) (fun iv _ => n - (intOf iv).toNat)
  case atStart => exact ⟨0, l, Nat.zero_le _, rfl, hr, hq, hv, ⟨rfl, rfl, fun j x hj => absurd hj (by omega), fun j x _ hx => hx, fun x hx => own_one (HH.out.own x hx)⟩, hb, hS⟩
  case round =>
    clear hr hq hv hb hS HC
    obtain ⟨k, xs, hk, rfl, hr, hq, hv, hX, hb, hS⟩ := hrel
    by_cases hlt : k < n
    · obtain ⟨gb, cap', cur, hve, _, _, hgB, hLr, hcs, htk⟩ := own_row hv (show 0 < n by omega)
      obtain ⟨rfl, rfl⟩ : a1 = some ⟨gb, 0, none⟩ ∧ c1 = cap' := by injection hve with e1 e2 e3; exact ⟨e1, e3⟩
      have hxl := hX.len
      rw [HN.out] at hxl
      obtain ⟨⟨q, u⟩, hx⟩ : ∃ x, xs[k]? = some x := ⟨_, List.getElem?_eq_getElem (by rw [hxl]; exact hlt)⟩
      have hlx := hX.old k _ (Nat.le_refl _) hx
      have hmem := List.mem_of_getElem? hlx
      have HO := hide (HH.out.own _ hmem)
      have hql := hll _ hmem
      simp only at hql
      have HK := hide hlx
      have HXk := hide hx
      have hcu : cur[k * 6 + 5]? = some u := by
        have := reqL_at xs k _ hx 5 (by decide)
        rw [← htk, List.getElem?_take] at this
        split at this
        · rw [← Array.getElem?_toList]; exact this
        · simp [Rq.at5] at this
      have HCU := hide hcu
      have hcl : k * 6 + 5 < cur.size := by rw [hcs]; omega
      have HCS : Hid (∀ W, Below w.heap.size w W → Calls Tryz.prog 64 #[u] W fun e w' => ∃ v', e = .returned v' ∧ w'.ownsRow W.heap.size 103 3 v' q.l.length (segL q.l) ∧ Below W.heap.size W w') := hide (fun W hb => clone_s q.l.length (segL q.l) (segL_ones _) (by omega) (own_bel HO.out hb))
      have hgb2 : gb < wr.heap.size := hLr.lt
      have HV := hide hv
      have HXX := hide hX
      have HHS := hide hxl
      clear hlx hmem hx hcu htk hve hv hX hxl
      go_wp2_with (fail)
      refine wp_region_held_drew (S := (fun V => RowAt V w.heap.size (s.c (.slice (some ⟨gb, 0, none⟩) n c1)) 53)) (by kernel_rfl) ?_ (fun hHeld => ?_)
      · exact hr.dr
      have hdb : Below wr.heap.size wr wr.drew := (Below.refl _ _).drew
      replace hq := hq.dr
      replace hLr := hLr.dr
      replace HV := hide (own_dr HV.out)
      replace HXX := hide (HXX.out.bl hdb)
      replace hb := hb.drew
      replace hS : w.heap.size + 2 ≤ wr.drew.heap.size := hS
      replace hgb2 : gb < wr.drew.heap.size := hgb2
      generalize wr.drew = V at hHeld hq hLr HV HXX hb hS hgb2 ⊢
      clear hr hdb
      refine tkO 0 (.pointer (some ⟨w.heap.size, 24, none⟩)) (by simp only [gT, gZ]; rfl) (puO (by (intro w hSw; (try dsimp only at hSw); go_simp))) ?_
      simp only [Act.put, pA, pZ, pS]
      refine tkO 1 (.slice (some ⟨gb, 0, none⟩) n c1) (by simp only [gT, gZ, gS]; rfl) (y_bin w.heap.size s _ _ (fun V hV => hV) rfl) ?_
      simp only [Act.put, pA, pZ, pS]
      refine tkO 2 (.int .i64 (k : Nat)) (by simp only [gT, gZ, gS]; rfl) (puO (by (intro w hSw; (try dsimp only at hSw); go_simp))) ?_
      simp only [Act.put, pA, pZ, pS]
      refine tkO 3 (.pointer (some ⟨w.heap.size, 24, none⟩)) (by simp only [gT, gZ, gS]; rfl) (puO (by (intro w hSw; (try dsimp only at hSw); go_simp))) ?_
      simp only [Act.put, pA, pZ, pS]
      refine tkO 4 (.slice (some ⟨gb, 0, none⟩) n c1) (by simp only [gT, gZ, gS]; rfl) (y_bin w.heap.size s _ _ (fun V hV => hV) rfl) ?_
      simp only [Act.put, pA, pZ, pS]
      refine tkO 5 (.int .i64 (k : Nat)) (by simp only [gT, gZ, gS]; rfl) (puO (by (intro w hSw; (try dsimp only at hSw); go_simp))) ?_
      simp only [Act.put, pA, pZ, pS]
      refine tkO 6 (.pointer (some ⟨gb, k * 6, none⟩)) (by simp only [gT, gZ, gS]; rfl) (puO (by (intro w hSw; (try dsimp only at hSw); go_simp))) ?_
      simp only [Act.put, pA, pZ, pS]
      refine tkO 7 (.pointer (some ⟨gb, k * 6 + 5, none⟩)) (by simp only [gT, gZ, gS]; rfl) (puO (by (intro w hSw; (try dsimp only at hSw); go_simp))) ?_
      simp only [Act.put, pA, pZ, pS]
      refine skO 8 (by simp only [gT, gZ, gS]; rfl) (fun K hK => ?_)
      rw [if_pos (by rfl)]
      (with_reducible refine s_ldc gb (k * 6 + 5) ?_ cur u _ hLr HCU.out _ Tryz.underlying100 ?_ ?_)
      · exact rfl
      · exact rfl
      refine hK.out _ _ ?_ (fun hHeld => ?_)
      · exact hHeld
      clear hK K
      refine skO 9 (by simp only [gT, gZ, gS]; rfl) (fun K hK => ?_)
      rw [if_pos (by rfl)]
      go_simp
      (with_reducible refine (HCS.out _ hb).mono ?_)
      rintro e V2 ⟨u2, rfl, hu2, hbc⟩
      have hH2 := hide (hHeld.bl hbc)
      replace hq := hq.bl hbc
      replace hLr := hLr.bl hbc
      replace HV := hide (own_bel HV.out hbc)
      replace HXX := hide (HXX.out.bl hbc)
      replace hb := hb.trans (hbc.mono hb.size)
      have hu3 := own_lower2 hu2 hS
      replace hgb2 := Nat.lt_of_lt_of_le hgb2 hbc.size
      replace hS := Nat.le_trans hS hbc.size
      obtain ⟨ua, uc, rfl, _, _⟩ := own_form hu2
      have HU := hide hu3
      clear hHeld hbc hu2 hu3
      go_simp
      refine hK.out _ _ ?_ (fun hHeld => ?_)
      · exact hH2.out
      clear hK K
      clear hH2
      refine tkO 10 (.pointer (some ⟨gb, k * 6, none⟩)) (by simp only [gT, gZ, gS]; rfl) (puO (by (intro w hSw; (try dsimp only at hSw); go_simp))) ?_
      simp only [Act.put, pA, pZ, pS]
      refine tkO 11 (.pointer (some ⟨gb, k * 6 + 5, none⟩)) (by simp only [gT, gZ, gS]; rfl) (puO (by (intro w hSw; (try dsimp only at hSw); go_simp))) ?_
      simp only [Act.put, pA, pZ, pS]
      refine skO 12 (by simp only [gT, gZ, gS]; rfl) (fun K hK => ?_)
      rw [if_pos (by rfl)]
      (with_reducible refine s_stc gb (k * 6 + 5) ?_ (.slice ua q.l.length uc) ?_ cur _ hLr size_slS hcl ?_ ?_)
      · exact rfl
      · exact rfl
      · exact rfl
      intro V3 hnew ho
      have hH2 := hide (hHeld.only ho (by omega))
      replace hq := hq.only ho (by omega)
      have HV2 := hide (own_set HV.out rfl hLr hnew)
      have HX2 := hide (HXX.out.step HXk.out HU.out hLr ho)
      rw [reqL_set xs k q u _ HXk.out] at HV2
      replace hb := ho.bel _ _ (by omega) hb
      replace hS := (show w.heap.size + 2 ≤ V3.heap.size by rw [ho.size]; exact hS)
      clear hHeld ho hnew hLr HV HXX
      refine hK.out _ _ ?_ (fun hHeld => ?_)
      · exact hH2.out
      clear hK K
      clear hH2
      refine wpAnyH_done (by kernel_rfl) ?_ _
      have hr := hHeld
      clear hHeld
      go_simp
      go_wp2
      go_roundw
      case rel => exact ⟨k + 1, _, hlt, by go_num, hr, hq, HV2.out, HX2.out, hb, hS⟩
      case measure => simp [intOf]; omega
    · obtain rfl : k = n := by omega
      have HI : Hid (InAt wr (w.heap.size + 2) (fun _ => False) (.slice a1 k c1) xs ∧ xs.map (·.1) = l.map (·.1)) := by
        refine hide ⟨⟨?_, fun x hx => ?_, fun _ _ h => h, fun _ _ _ _ h => h⟩, hX.fst⟩
        · rw [hX.len, HN.out]; exact hv
        · obtain ⟨j, hj⟩ := List.getElem?_of_mem hx
          have hjl := (List.getElem?_eq_some_iff.1 hj).1
          rw [hX.len, HN.out] at hjl
          exact hX.new j x hjl hj
      clear hX hv
      go_wp2_with (first | ((with_reducible refine ld_bk w.heap.size s _ hr ?_ ?_ ?_); exact rfl; exact rfl) | ((with_reducible refine st_bk (w.heap.size + 1) _ _ s (.slice a1 k c1) rfl hq ?_ ?_ ?_); exact rfl; exact rfl; intro W3 hnew ho; replace hr := hr.only ho (by omega); replace hq := hnew; replace hb := ho.bel _ _ (by omega) hb))
      refine bodyPost_ret (results_cell_row Tryz.results29 _ _ (w.heap.size + 1) _ _ _ _ rfl hq Tryz.underlying53 rfl size_bk) rfl ?_
      exact ⟨_, rfl, xs, HI.out.2, (HI.out.1.only ho (fun e => absurd (HI.out.1.row.lt _ e).1 (by omega)) (fun x hx e => absurd ((HI.out.1.own x hx).lt _ e).1 (by omega))).lower (by omega), hb⟩
end Go.Proofs.YtaaiockiojejeaaGreatDoor
namespace Go.Proofs.YtaaiockiojejeaaGreatDoor
open Go.RowKit
set_option linter.unusedVariables false
set_option linter.unusedSimpArgs false

variable {P : Program} {ops : Array Oper} {rest : List Oper} {dst : Option Tmp} {ty t : TypeId} {pos : String} {after : Array Edge} {a : Act} {w : World} {Q : Exit → Act → World → Prop} {x y : Operand}
theorem zeros_len (zc : Array Value) (n : Nat) : (Builtin.zeroCells zc n).toList.length = n * zc.size := by simp [Builtin.zeroCells]
theorem zeros_one (zc : Array Value) (n : Nat) (h : ∀ u ∈ zc, u.oneCell' = true) (hs : 0 < zc.size) : ∀ u ∈ (Builtin.zeroCells zc n).toList, u.oneCell' = true := by
  intro v hv
  simp only [Builtin.zeroCells, Array.toList_map, Array.toList_range, List.mem_map] at hv
  obtain ⟨a, _, rfl⟩ := hv
  have hl : a % zc.size < zc.size := Nat.mod_lt _ hs
  rw [getElem!_pos zc (a % zc.size) hl]
  exact h _ (Array.getElem_mem hl)
theorem op_clear (t e : TypeId) (ht : P.underlying t = some (.slice e)) (zc : Array Value) (hz : ∀ w, (zeroValue e).run P w = .ok (.agg zc) w) (h1 : ∀ u ∈ zc, u.oneCell' = true) (hzs : 0 < zc.size) (b o n c : Nat) (hn : 0 < n) (cur : Array Value) (t' : TypeId) (hr : RowAt w b cur t') (hfit : o + n * zc.size ≤ cur.size) (hx : a.eval x = .slice (some ⟨b, o, none⟩) n c)
    (k : ∀ W cur', RowAt W b cur' t' → cur'.size = cur.size → (∀ j, j < o → cur'[j]? = cur[j]?) → Only b w W → wpList P ops Q rest (a.put dst (.tuple #[])) W) :
    wpList P ops Q (⟨dst, .call { callee := .builtin .clear, args := #[x], argTypes := #[t] }, ty, pos, after, none⟩ :: rest) a w := by
  have hth := hr.thereAt o (n * zc.size) hfit
  have hl := zeros_len zc n
  have hst := run_storeCells_cells (P := P) b o (Builtin.zeroCells zc n).toList 0 w (fun i hi => by rw [hl] at hi; simpa using (hth i (by omega)).1) (fun i hi => by rw [hl] at hi; simpa using (hth i (by omega)).2) (zeros_one zc n h1 hzs)
  simp only [Nat.add_zero] at hst
  have hrun : ∀ ty, (Builtin.clear_ #[t] ty #[.slice (some ⟨b, o, none⟩) n c]).run P w = .ok (.tuple #[]) (w.setCells b o (Builtin.zeroCells zc n).toList) := fun ty => by
    obtain ⟨m, rfl⟩ : ∃ m, n = m + 1 := ⟨n - 1, by omega⟩
    simp [Builtin.clear_, run_underlying ht, hz, Value.cells, hst]
  refine wpList_plain rfl fun K hK => ?_
  unfold Oper.wp
  have : (execOp a.eval ⟨dst, .call { callee := .builtin .clear, args := #[x], argTypes := #[t] }, ty, pos, after, none⟩).run P w = .ok (.value (.tuple #[])) (w.setCells b o (Builtin.zeroCells zc n).toList) := by
    simp [execOp, resolve, invoke, builtin, hx, hrun, Result.andThen]
  rw [this, Oper.upon_value]
  refine hK _ _ (k _ _ (RowAt.puts (Builtin.zeroCells zc n).toList o hr) (putAll_size _ _ _) (fun j hj => ?_) (only_setCells b o _ w))
  rw [putAll_get _ _ _ _ (by rw [hl]; exact hfit), if_neg (by omega)]
/-- A row of which the first m are kept. -/
theorem own_front {w W : World} {B e sz n m g cap : Nat} {xs : List Value} {cur cur' : Array Value} (h : w.ownsRow B e sz (.slice (some ⟨g, 0, none⟩) n cap) n xs) (hr : RowAt w g cur e) (hw : RowAt W g cur' e) (hs : cur'.size = cur.size) (hc : ∀ j, j < m * sz → cur'[j]? = cur[j]?) (hm : m ≤ n) : W.ownsRow B e sz (.slice (some ⟨g, 0, none⟩) m cap) m (xs.take (m * sz)) := by
  rcases h.2 with ⟨h1, h2⟩ | ⟨g', cap', cur1, h1, h2, h3, h4, h5, h6, h7⟩
  · cases h1
  · injection h1 with e1 e2 e3
    cases e1
    subst e3
    have e1 := hr.symm.trans h3
    simp at e1
    subst e1
    refine ⟨by rw [List.length_take, h.1]; exact Nat.min_eq_left (Nat.mul_le_mul_right _ hm), .inr ⟨g, cap, cur', rfl, h2, hw, by omega, h5, by rw [hs]; exact h6, ?_⟩⟩
    rw [← h7, List.take_take, Nat.min_eq_left (Nat.mul_le_mul_right _ hm)]
    apply List.ext_getElem?
    intro j
    rw [List.getElem?_take, List.getElem?_take]
    split
    · rename_i hj; rw [Array.getElem?_toList, Array.getElem?_toList]; exact hc j hj
    · rfl
end Go.Proofs.YtaaiockiojejeaaGreatDoor
namespace Go.Proofs.YtaaiockiojejeaaGreatDoor
open Go.RowKit
set_option linter.unusedVariables false
set_option linter.unusedSimpArgs false

variable {P : Program} {dst : Option Tmp} {ty t : TypeId} {pos : String} {after : Array Edge} {a : Act} {w : World} {Q : Exit → Act → World → Prop} {K : Act → World → Prop} {x y : Operand}
theorem s_bsr {parts : Array (Nat × Operand)} (t e : TypeId) (n : Nat) (hu : P.underlying t = some (.slice e)) (C : Array Value) (N : Nat) (hN : w.heap.size = N) (L : List (Nat × Value)) (hL : (parts.map fun p => (p.1, a.eval p.2)).toList = L) (hf : BuiltR P e n L C)
    (k : ∀ W, RowAt W N C e → Below N w W → Hid (W.heap.size = N + 1) → K (a.put dst (.slice (some ⟨N, 0, none⟩) n n)) W) :
    Oper.wp P ⟨dst, .buildSlice t n parts, ty, pos, after, none⟩ a w K Q := by
  subst hN hL
  replace hf := hf.h
  unfold Program.builtSlice at hf
  cases hie : P.info? e with
  | none => simp [hie] at hf
  | some ie =>
    simp only [hie] at hf
    cases hz : ie.zero with
    | none => simp [hz] at hf
    | some z =>
      simp only [hz] at hf
      by_cases hc : n * ie.size > 2 ^ 24 ∨ n * ie.size = 0
      · simp [hc] at hf
      · rw [if_neg hc] at hf
        exact wp_buildSlice t e n parts rfl C ie z hu hie hz (fun h' => hc (Or.inl h')) (fun h' => hc (Or.inr h')) hf (k _ (RowAt.new w _ C e rfl) (below_one w _) (hide (by simp)))
theorem s_alc (N : Nat) (hN : w.heap.size = N) (cs : Array Value) (hz : ∀ w, (zeroValue t).run P w = .ok (.agg cs) w)
    (k : ∀ W, RowAt W N cs t → Below N w W → Hid (W.heap.size = N + 1) → K (a.put dst (.pointer (some ⟨N, 0, none⟩))) W) :
    Oper.wp P ⟨dst, .alloc t, ty, pos, after, none⟩ a w K Q := by
  subst hN
  have hrun : (execOp a.eval ⟨dst, .alloc t, ty, pos, after, none⟩).run P w = .ok (.value (.pointer (some ⟨w.heap.size, 0, none⟩))) (w.alloc (.cells cs t)) := by
    unfold execOp
    simp only [Instr.alloc, Sem.run_bind, hz, Result.andThen_ok, newVar, newRow, run_newObj_alloc, Sem.run_pure]
    rfl
  unfold Oper.wp
  rw [hrun, Oper.upon_value]
  exact k _ (RowAt.new w _ cs t rfl) (below_one w _) (hide (by simp))
theorem s_appl {v : Value} {B n : Nat} {xs : List Value} (t e : TypeId) (i : TypeInfo) (z : Value) (size bytes : Nat) (ht : P.underlying t = some (.slice e)) (hi : P.info? e = some i) (hz : i.zero = some z) (hs : i.size = size) (hby : i.bytes = bytes) (hzs : z.cells.size = size) (hsz : 0 < size)
    (hown : w.ownsRow B e size v n xs) (s : Addr) (m sc : Nat) (news : List Value) (hl : news.length = m * size) (hnews : ∀ j u, news[j]? = some u → w.cell? (s.add j) = some u) (h1 : ∀ u ∈ news, u.oneCell' = true)
    (h63 : n + m ≤ maxLen) (hbytes : (n + m) * bytes ≤ 140737488355328) (hB : B ≤ w.heap.size) (hx : a.eval x = v) (hy : a.eval y = .slice (some s) m sc)
    (k : ∀ W v', W.ownsRow B e size v' (n + m) (xs ++ news) → w.grownBy W v.ownBlock → (v'.ownBlock = v.ownBlock ∨ v'.ownBlock = some w.heap.size) → K (a.put dst v') W) :
    Oper.wp P ⟨dst, .call { callee := .builtin .append, args := #[x, y], argTypes := #[t, t] }, t, pos, after, none⟩ a w K Q := by
  obtain ⟨v', W, a1, a2, a3, a4, a5⟩ := run_append_own_at (P := P) w B t t e i z size bytes ht hi hz hs hby hzs hsz v n xs hown s m sc news hl hnews h1 h63 hbytes hB
  unfold Oper.wp
  have : (execOp a.eval ⟨dst, .call { callee := .builtin .append, args := #[x, y], argTypes := #[t, t] }, t, pos, after, none⟩).run P w = .ok (.value v') W := by
    simp [execOp, resolve, invoke, builtin, hx, hy, a1, Result.andThen]
  rw [this, Oper.upon_value]
  exact k W v' a2 a3 a5
theorem bs_byte (n : Nat) : BuiltR Tryz.prog 5 1 [(0, .int .u8 (n : Nat))] #[.int .u8 (n : Nat)] := ⟨by kernel_rfl⟩
end Go.Proofs.YtaaiockiojejeaaGreatDoor
