/-
  One request of a working disk, plain: a read of 512 bytes in two parts, a write of 512 bytes in two parts.
-/
import Derived.Test.YtaaiockiojejeaaGreatDoorJR25
import Derived.Test.YtaaiockiojejeaaGreatDoorJR26
import Derived.Test.YtaaiockiojejeaaGreatDoorJR9
namespace Go.Proofs.YtaaiockiojejeaaGreatDoor
open Go.RowKit
set_option linter.unusedVariables false
set_option linter.unusedSimpArgs false

def lv0 : Bk := ⟨zeroV, 100, true, 0, []⟩
def lv1 : Bk := ⟨zeroV.stw 15, 100, true, 0, []⟩
def lv2 : Bk := ⟨(zeroV.stw 15).d1w 1, 100, true, 0, []⟩
def lvQ : Qu := ⟨true, lR 0 0⟩
variable {ops : Array Oper} {rest : List Oper} {dst : Option Tmp} {ty : TypeId} {pos : String} {after : Array Edge} {a : Act} {w : World} {Q : Exit → Act → World → Prop} {x y : Operand}
theorem st_l1 (b : Nat) (t' : TypeId) (hr : RowAt w b (lv0.c nilS) t') (hx : a.eval x = .pointer (some ⟨b, 0, none⟩)) (hy : a.eval y = .int .u32 15)
    (k : ∀ W, RowAt W b (lv1.c nilS) t' → Only b w W → wpList Tryz.prog ops Q rest (a.put dst undef) W) : wpList Tryz.prog ops Q (⟨dst, .store 22 x y, ty, pos, after, none⟩ :: rest) a w :=
  op_store_cell b 0 hx _ hy (lv0.c nilS) _ _ hr size_u32i (by show 0 < 25; decide) rfl rfl k
theorem st_l2 (b : Nat) (t' : TypeId) (hr : RowAt w b (lv1.c nilS) t') (hx : a.eval x = .pointer (some ⟨b, 5, none⟩)) (hy : a.eval y = .agg #[.int .u32 0, .int .u32 1])
    (k : ∀ W, RowAt W b (lv2.c nilS) t' → Only b w W → wpList Tryz.prog ops Q rest (a.put dst undef) W) : wpList Tryz.prog ops Q (⟨dst, .store 23 x y, ty, pos, after, none⟩ :: rest) a w :=
  op_store_mid b 5 hx #[.int .u32 0, .int .u32 1] hy (lv1.c nilS) _ _ hr size_drv (by show 5 + 2 ≤ 25; decide) (by simp [Value.oneCell']) (by kernel_rfl) k
theorem st_l3 (b : Nat) (t' : TypeId) (hr : RowAt w b (lv2.c nilS) t') (hx : a.eval x = .pointer (some ⟨b, 7, none⟩)) (hy : a.eval y = .agg lvQ.cells)
    (k : ∀ W, RowAt W b (lvS.c nilS) t' → Only b w W → wpList Tryz.prog ops Q rest (a.put dst undef) W) : wpList Tryz.prog ops Q (⟨dst, .store 47 x y, ty, pos, after, none⟩ :: rest) a w :=
  op_store_mid b 7 hx lvQ.cells hy (lv2.c nilS) _ _ hr size_qp (by show 7 + 7 ≤ 25; decide) (by kernel_rfl) (by kernel_rfl) k
set_option maxHeartbeats 1000000 in
theorem blive_any (w : World) : Calls Tryz.prog 20 #[] w fun e w' => e = .returned (.agg (lvS.c nilS)) ∧ Below w.heap.size w w' := by
  go_enter Tryz.func20, Tryz.ntmps20
  go_wp2_with (first | ((with_reducible refine al_bk w.heap.size ?_ ?_); exact rfl; intro W hq hb hz) | ((with_reducible refine al_bk (w.heap.size + 1) ?_ ?_); exact hz.out; intro W hr hb' hz'; replace hq := hq.bl (hz.out ▸ hb'); replace hb := hb.trans (hb'.mono (by omega)); clear hb' hz') | ((with_reducible refine st_bk (w.heap.size + 1) _ _ lv0 nilS rfl hr ?_ ?_ ?_); exact rfl; exact rfl; intro W hnew ho; replace hb := ho.bel _ _ (by omega) hb; replace hq := hq.only ho (by omega); replace hr := hnew; clear hnew ho) | ((with_reducible refine st_l1 (w.heap.size + 1) _ hr ?_ ?_ ?_); exact rfl; exact rfl; intro W hnew ho; replace hb := ho.bel _ _ (by omega) hb; replace hq := hq.only ho (by omega); clear hr; have hr := hnew; clear hnew ho) | ((with_reducible refine st_l2 (w.heap.size + 1) _ hr ?_ ?_ ?_); exact rfl; exact rfl; intro W hnew ho; replace hb := ho.bel _ _ (by omega) hb; replace hq := hq.only ho (by omega); clear hr; have hr := hnew; clear hnew ho) | ((with_reducible refine st_l3 (w.heap.size + 1) _ hr ?_ ?_ ?_); exact rfl; exact rfl; intro W hnew ho; replace hb := ho.bel _ _ (by omega) hb; replace hq := hq.only ho (by omega); clear hr; have hr := hnew; clear hnew ho) | ((with_reducible refine ld_bk (w.heap.size + 1) lvS nilS hr ?_ ?_ ?_); exact rfl; exact rfl) | ((with_reducible refine st_bk w.heap.size _ _ lvS nilS rfl hq ?_ ?_ ?_); exact rfl; exact rfl; intro W hnew ho; replace hb := ho.bel _ _ (by omega) hb; replace hq := hnew; clear hnew ho))
  refine bodyPost_ret (results_cell_row Tryz.results20 _ _ w.heap.size _ _ _ _ rfl hq Tryz.underlying53 rfl size_bk) rfl ?_
  exact ⟨rfl, hb⟩
end Go.Proofs.YtaaiockiojejeaaGreatDoor
namespace Go.Proofs.YtaaiockiojejeaaGreatDoor
open Go.RowKit

def suG : Nat → Nat → Nat
  | 0, 0 => 0 | 0, _ => 2147484416 | 1, 0 => 8 | 1, _ => 16 | 2, 0 => 12 | 2, _ => 65537 | 3, 0 => 16 | 3, _ => 2147487744 | 4, 0 => 24 | 4, _ => 513 | 5, 0 => 28 | 5, _ => 2
  | 6, 0 => 256 | 6, _ => 65536 | _, 0 => 776 | _, _ => 3
def suF : Nat → Nat := laidW suG 8
def suQ : Rq := ⟨0, 0, false, 3, 512, [⟨2147487744, 513, true⟩]⟩
def suS : Bk := ⟨lvP 1 0 0, 100, false, 1, [suQ]⟩
theorem su_pol : polV 2 suF lvS = ⟨suF, suS, [⟨0, false, 3, 512, []⟩]⟩ := by kernel_rfl
theorem su_ans : (ansV 2 suF suS 0 [⟨2147487744, 513, true⟩] (List.replicate 512 0 ++ [0])).2 = ⟨lvP 1 1 1, 100, false, 1, [suQ]⟩ := by kernel_rfl
end Go.Proofs.YtaaiockiojejeaaGreatDoor
namespace Go.Proofs.YtaaiockiojejeaaGreatDoor
open Go.RowKit
set_option linter.unusedVariables false
set_option linter.unusedSimpArgs false

variable {ops : Array Oper} {rest : List Oper} {dst : Option Tmp} {ty : TypeId} {pos : String} {after : Array Edge} {a : Act} {w : World} {Q : Exit → Act → World → Prop} {x y : Operand} {B : Nat} {v : Value} {gd : Option (Nat × Bool)}
theorem ld_u32c (b : Nat) (v : Int) (t' : TypeId) (hr : RowAt w b #[.int .u32 v] t') (hx : a.eval x = .pointer (some ⟨b, 0, none⟩)) (hw : Region.wanted ⟨dst, .load 22 x, ty, pos, after, gd⟩ (yielded ops a.tmps) = true)
    (k : wpList Tryz.prog ops Q rest (a.put dst (.int .u32 v)) w) : wpList Tryz.prog ops Q (⟨dst, .load 22 x, ty, pos, after, gd⟩ :: rest) a w :=
  op_load_cellg b 0 hx #[.int .u32 v] _ _ hr rfl _ Tryz.underlying22 rfl hw k
theorem castE (a b : Nat) : ((a : Int) == (b : Int)) = (a == b) := by
  by_cases h : a = b
  · subst h; simp
  · have : ((a : Int) == (b : Int)) = false := by simp; omega
    rw [this]; simp [h]
set_option maxHeartbeats 1000000 in
theorem find1_any (q : Rq) (u : Value) (id Ib : Nat) (t' : TypeId) (w : World) (hI : RowAt w Ib #[.int .u32 (id : Nat)] t') :
    Calls Tryz.prog 91 #[.agg (q.c u), .pointer (some ⟨Ib, 0, none⟩)] w fun e w' => e = .returned (.bool (q.id == id)) ∧ Below w.heap.size w w' := by
  have HC := hide (castE q.id id)
  go_enter Tryz.func91, Tryz.ntmps91
  go_wp2_with (first | ((with_reducible refine bx_rq w.heap.size q u ?_ ?_ ?_); exact rfl; exact rfl; intro W hr hb hz; replace hI := hI.bl hb) | ((with_reducible refine ld_qid w.heap.size q _ _ hr ?_ ?_ ?_); exact rfl; exact rfl) | ((with_reducible refine ld_u32c Ib _ _ hI ?_ ?_ ?_); exact rfl; exact rfl))
  go_ret
  exact ⟨by rw [← HC.out]; rfl, hb⟩
/-- None of the first k has the ID. -/
def noId (l : List (Rq × Value)) (id k : Nat) : Prop := ∀ x ∈ l.take k, (x.1.id == id) = false
theorem noId_step {l : List (Rq × Value)} {id k : Nat} {q : Rq × Value} (h : noId l id k) (hq : l[k]? = some q) (hn : (q.1.id == id) = false) : noId l id (k + 1) := by
  intro x hx
  rw [List.take_add_one, hq] at hx
  rcases List.mem_append.1 hx with h1 | h1
  · exact h x h1
  · simp at h1; subst h1; exact hn
theorem noId_hit {l : List (Rq × Value)} {id k : Nat} {q : Rq × Value} (h : noId l id k) (hq : l[k]? = some q) (hn : (q.1.id == id) = true) : idxQ (l.map (·.1)) id = (k : Int) := by
  unfold idxQ
  have hk := (List.getElem?_eq_some_iff.1 hq).1
  have : (l.map (·.1)).findIdx? (fun q => q.id == id) = some k := by
    rw [List.findIdx?_eq_some_iff_getElem]
    refine ⟨by simpa using hk, ?_, ?_⟩
    · simp only [List.getElem_map]
      rw [(List.getElem?_eq_some_iff.1 hq).2]; exact hn
    · intro j hj
      simp only [List.getElem_map, Bool.not_eq_true]
      exact h _ (List.mem_take_iff_getElem.2 ⟨j, by omega, rfl⟩)
  rw [this]
theorem noId_none {l : List (Rq × Value)} {id : Nat} (h : noId l id l.length) : idxQ (l.map (·.1)) id = -1 := by
  unfold idxQ
  have : (l.map (·.1)).findIdx? (fun q => q.id == id) = none := by
    rw [List.findIdx?_eq_none_iff]
    intro q hq
    obtain ⟨x, hx, rfl⟩ := List.mem_map.1 hq
    exact h x (by rwa [List.take_length])
  rw [this]
set_option maxHeartbeats 2000000 in
theorem idxr_any (l : List (Rq × Value)) (hl : l.length ≤ 1000000) (id Ib : Nat) (t' : TypeId) {w : World} {B : Nat} {v : Value} (hI : RowAt w Ib #[.int .u32 (id : Nat)] t') (hL : w.ownsRow B 102 6 v l.length (reqL l)) :
    Calls Tryz.prog 90 #[v, .func (.func 91) #[] #[.pointer (some ⟨Ib, 0, none⟩)]] w fun e w' => e = .returned (.int .i64 (idxQ (l.map (·.1)) id)) ∧ Below w.heap.size w w' := by
  have HI := hide hI
  have HL := hide hL
  obtain ⟨n, hn⟩ : ∃ n, l.length = n := ⟨_, rfl⟩
  have HN := hide hn
  rw [hn] at hl
  obtain ⟨av, cap, rfl, hc1, hc2⟩ := own_form hL
  rw [hn] at hc1 ⊢
  obtain ⟨z, hz⟩ : ∃ z, idxQ (l.map (·.1)) id = z := ⟨_, rfl⟩
  have HZ := hide hz
  rw [hz]
  clear hI hL hn hz
  go_enter Tryz.func90, Tryz.ntmps90
  go_wp2
  go_loopw [8] (fun iv wr => ∃ (k : Nat), k ≤ n ∧ iv = .int .i64 (k : Nat) ∧ noId l id k ∧ Below w.heap.size w wr) (fun iv _ => n - (intOf iv).toNat)
  case atStart => exact ⟨0, Nat.zero_le _, rfl, (fun x hx => by simp at hx), Below.refl _ _⟩
  case round =>
    obtain ⟨k, hk, rfl, hod, hb⟩ := hrel
    have HOD := hide hod
    clear hod
    by_cases hlt : k < n
    · obtain ⟨gb, cap', cur, hve, _, _, _, hLr0, _, htk⟩ := own_row (own_bel HL.out hb) (show 0 < l.length by rw [HN.out]; omega)
      obtain ⟨rfl, rfl⟩ : av = some ⟨gb, 0, none⟩ ∧ cap = cap' := by injection hve with e1 e2 e3; exact ⟨e1, e3⟩
      have hLr := hLr0
      obtain ⟨s, hs⟩ : ∃ s, l[k]? = some s := ⟨_, List.getElem?_eq_getElem (by rw [HN.out]; exact hlt)⟩
      have hmid := mid_r htk hs
      have HS := hide hs
      have HC : Hid (Calls Tryz.prog 91 #[.agg (s.1.c s.2), .pointer (some ⟨Ib, 0, none⟩)] wr fun e w' => e = .returned (.bool (s.1.id == id)) ∧ Below wr.heap.size wr w') := hide (find1_any s.1 s.2 id Ib t' wr (HI.out.bl hb))
      obtain ⟨bo, hbo⟩ : ∃ x, (s.1.id == id) = x := ⟨_, rfl⟩
      rw [hbo] at HC
      have HBO := hide hbo
      clear hs hbo htk hve
      cases bo with
      | true =>
        go_wp2_with (first | ((with_reducible refine ld_rm gb (k * 6) s.1 s.2 cur _ hLr hmid ?_ ?_); exact rfl) | (go_at_call 91; (with_reducible refine HC.out.mono ?_); rintro e W2 ⟨rfl, hb2⟩))
        go_ret
        exact ⟨by rw [← HZ.out, noId_hit HOD.out HS.out HBO.out]; rfl, hb.trans (hb2.mono hb.size)⟩
      | false =>
        go_wp2_with (first | ((with_reducible refine ld_rm gb (k * 6) s.1 s.2 cur _ hLr hmid ?_ ?_); exact rfl) | (go_at_call 91; (with_reducible refine HC.out.mono ?_); rintro e W2 ⟨rfl, hb2⟩))
        go_roundw
        case rel => exact ⟨k + 1, hlt, by go_num, noId_step HOD.out HS.out HBO.out, hb.trans (hb2.mono hb.size)⟩
        case measure => simp [intOf]; omega
    · obtain rfl : k = n := by omega
      go_wp2
      go_ret
      exact ⟨by rw [← HZ.out, noId_none (by rw [HN.out]; exact HOD.out)]; rfl, hb⟩
set_option maxHeartbeats 1000000 in
theorem bfind_any (l : List (Rq × Value)) (hl : l.length ≤ 1000000) (id : Nat) {w : World} {B : Nat} {v : Value} (hL : w.ownsRow B 102 6 v l.length (reqL l)) :
    Calls Tryz.prog 47 #[v, .int .u32 (id : Nat)] w fun e w' => e = .returned (.int .i64 (idxQ (l.map (·.1)) id)) ∧ Below w.heap.size w w' := by
  have HX : Hid (∀ W t', RowAt W w.heap.size #[.int .u32 (id : Nat)] t' → W.ownsRow B 102 6 v l.length (reqL l) → Calls Tryz.prog 90 #[v, .func (.func 91) #[] #[.pointer (some ⟨w.heap.size, 0, none⟩)]] W fun e w' => e = .returned (.int .i64 (idxQ (l.map (·.1)) id)) ∧ Below W.heap.size W w') := hide (fun W t' hI hL => idxr_any l hl id w.heap.size t' hI hL)
  generalize idxQ (l.map (·.1)) id = z at *
  go_enter Tryz.func47, Tryz.ntmps47
  go_wp2_with (first | ((with_reducible refine op_box1 w.heap.size ?_ (.int .u32 (id : Nat)) ?_ rfl ?_); exact rfl; exact rfl; intro W hr hb hz; replace hL := own_bel hL hb) | (go_at_call 90; (with_reducible refine (HX.out _ _ hr hL).mono ?_); rintro e W2 ⟨rfl, hb2⟩; replace hb := hb.trans (hb2.mono hb.size)))
  go_ret
  exact ⟨rfl, hb⟩
end Go.Proofs.YtaaiockiojejeaaGreatDoor
namespace Go.Proofs.YtaaiockiojejeaaGreatDoor
open Go.RowKit
set_option linter.unusedVariables false
set_option linter.unusedSimpArgs false

set_option maxHeartbeats 1000000 in
theorem isdata_any (n : Int) (h0 : -9223372036854775808 ≤ n) (h1 : n ≤ 9223372036854775807) (w : World) :
    Calls Tryz.prog 102 #[.int .i64 n] w fun e w' => e = .returned (.bool (isDat n)) ∧ w' = w := by
  unfold isDat
  by_cases hp : 0 < n
  · obtain ⟨m, rfl⟩ := Int.eq_ofNat_of_zero_le (show 0 ≤ n by omega)
    have t0 : decide (0 < (m : Int)) = true := by simpa using hp
    rw [t0, Bool.true_and]
    have e1 : IntKind.i64.wrap ((m : Int).tmod 512) = (m : Int) % 512 := by rw [Int.tmod_eq_emod_of_nonneg (by omega), IntKind.wrap_i64]; omega
    have e2 : (m : Int).tmod 512 = (m : Int) % 512 := Int.tmod_eq_emod_of_nonneg (by omega)
    have e3 : (((m : Int) % 512) == 0) = decide ((m : Int) % 512 = 0) := by
      by_cases h : (m : Int) % 512 = 0 <;> simp [h]
    have E3 := hide e3
    clear e3
    go_enter Tryz.func102, Tryz.ntmps102
    go_wp2
    go_ret
    exact ⟨by rw [← E3.out]; rfl, rfl⟩
  · have t0 : decide (0 < n) = false := by simpa using hp
    rw [t0, Bool.false_and]
    go_enter Tryz.func102, Tryz.ntmps102
    go_wp2
    go_ret
    exact ⟨rfl, rfl⟩
set_option maxHeartbeats 1000000 in
theorem iswithin_any (sc se n : Nat) (hsc : sc < 4294967296) (hse : se < 18446744073709551616) (hn : n < 9223372036854775808) (w : World) :
    Calls Tryz.prog 76 #[.int .u32 (sc : Nat), .int .u64 (se : Nat), .int .i64 (n : Nat)] w fun e w' => e = .returned (.bool (isWit sc se n)) ∧ w' = w := by
  unfold isWit
  have e1 : IntKind.i64.wrap ((n : Int).tdiv 512) = ((n / 512 : Nat) : Int) := by rw [Int.tdiv_eq_ediv_of_nonneg (by omega), IntKind.wrap_i64]; omega
  have e2 : (n : Int).tdiv 512 = ((n / 512 : Nat) : Int) := by rw [Int.tdiv_eq_ediv_of_nonneg (by omega)]; omega
  have e0 : IntKind.u64.wrap (sc : Int) = (sc : Int) := by rw [IntKind.wrap_u64]; omega
  have e5 : IntKind.u64.wrap ((n / 512 : Nat) : Int) = ((n / 512 : Nat) : Int) := by rw [IntKind.wrap_u64]; omega
  have e7 : wrap64 ((n / 512 : Nat) : Int) = ((n / 512 : Nat) : Int) := by unfold wrap64; omega
  by_cases hp : se ≤ sc
  · have t0 : decide ((se : Int) ≤ (sc : Int)) = true := by simp; omega
    have t1 : decide (se ≤ sc) = true := by simpa using hp
    rw [t1, Bool.true_and]
    have e3 : IntKind.u64.wrap ((sc : Int) - (se : Int)) = ((sc - se : Nat) : Int) := by rw [IntKind.wrap_u64]; omega
    have e4 : ((sc : Int) - (se : Int)) % 18446744073709551616 = ((sc - se : Nat) : Int) := by omega
    have e6 : Hid (decide (((n / 512 : Nat) : Int) ≤ ((sc - se : Nat) : Int)) = decide (n / 512 ≤ sc - se)) := hide (by simp only [Int.ofNat_le])
    generalize n / 512 = q at *
    obtain ⟨d, hd⟩ : ∃ d, sc - se = d := ⟨_, rfl⟩
    rw [hd] at e3 e4 e6 ⊢
    clear hd
    go_enter Tryz.func76, Tryz.ntmps76
    go_wp2
    go_ret
    exact ⟨by first | rfl | (rw [← e6.out]; rfl), rfl⟩
  · have t0 : decide ((se : Int) ≤ (sc : Int)) = false := by simp; omega
    have t1 : decide (se ≤ sc) = false := by simpa using hp
    rw [t1, Bool.false_and]
    generalize n / 512 = q at *
    go_enter Tryz.func76, Tryz.ntmps76
    go_wp2
    go_ret
    exact ⟨rfl, rfl⟩
set_option maxHeartbeats 1000000 in
theorem moves_any (c : Ch) (v : Value) (w : World) :
    Calls Tryz.prog 74 #[.agg (c.c v)] w fun e w' => e = .returned (.bool c.mov) ∧ Below w.heap.size w w' := by
  by_cases h0 : c.kd = 0
  · have hm : c.mov = true := by simp [Ch.mov, h0]
    have t0 : ((c.kd : Int) == 0) = true := by simp; omega
    rw [hm]
    clear h0 hm
    go_enter Tryz.func74, Tryz.ntmps74
    go_wp2_with (first | ((with_reducible refine bx_ch w.heap.size c v ?_ ?_ ?_); exact rfl; exact rfl; intro W hr hb hz) | ((with_reducible refine ld_ckd w.heap.size c _ _ hr ?_ ?_ ?_); exact rfl; exact rfl))
    go_ret
    exact ⟨rfl, hb⟩
  · have t0 : ((c.kd : Int) == 0) = false := by simp; omega
    by_cases h1 : c.kd = 1
    · have hm : c.mov = true := by simp [Ch.mov, h1]
      have t1 : ((c.kd : Int) == 1) = true := by simp; omega
      rw [hm]
      clear h0 h1 hm
      go_enter Tryz.func74, Tryz.ntmps74
      go_wp2_with (first | ((with_reducible refine bx_ch w.heap.size c v ?_ ?_ ?_); exact rfl; exact rfl; intro W hr hb hz) | ((with_reducible refine ld_ckd w.heap.size c _ _ hr ?_ ?_ ?_); exact rfl; exact rfl))
      go_ret
      exact ⟨rfl, hb⟩
    · have hm : c.mov = false := by simp [Ch.mov, h0, h1]
      have t1 : ((c.kd : Int) == 1) = false := by simp; omega
      rw [hm]
      clear h0 h1 hm
      go_enter Tryz.func74, Tryz.ntmps74
      go_wp2_with (first | ((with_reducible refine bx_ch w.heap.size c v ?_ ?_ ?_); exact rfl; exact rfl; intro W hr hb hz) | ((with_reducible refine ld_ckd w.heap.size c _ _ hr ?_ ?_ ?_); exact rfl; exact rfl))
      go_ret
      exact ⟨rfl, hb⟩
set_option maxHeartbeats 1000000 in
theorem databytes_any (c : Ch) (v : Value) (hr0 : 0 ≤ c.rd) (hr1 : c.rd ≤ 9223372036854775807) (hw0 : 0 ≤ c.wr) (hw1 : c.wr ≤ 9223372036854775807) (w : World) :
    Calls Tryz.prog 77 #[.agg (c.c v)] w fun e w' => e = .returned (.int .i64 c.dat) ∧ Below w.heap.size w w' := by
  by_cases h1 : c.kd = 1
  · have hm : c.dat = c.rd - 16 := by simp [Ch.dat, h1]
    have t1 : ((c.kd : Int) == 1) = true := by simp; omega
    rw [hm]
    clear h1 hm
    go_enter Tryz.func77, Tryz.ntmps77
    go_wp2_with (first | ((with_reducible refine bx_ch w.heap.size c v ?_ ?_ ?_); exact rfl; exact rfl; intro W hr hb hz) | ((with_reducible refine ld_ckd w.heap.size c _ _ hr ?_ ?_ ?_); exact rfl; exact rfl) | ((with_reducible refine ld_crd w.heap.size c _ _ hr ?_ ?_ ?_); exact rfl; exact rfl) | ((with_reducible refine ld_cwr w.heap.size c _ _ hr ?_ ?_ ?_); exact rfl; exact rfl))
    go_ret
    exact ⟨rfl, hb⟩
  · have hm : c.dat = c.wr - 1 := by simp [Ch.dat, h1]
    have t1 : ((c.kd : Int) == 1) = false := by simp; omega
    rw [hm]
    clear h1 hm
    go_enter Tryz.func77, Tryz.ntmps77
    go_wp2_with (first | ((with_reducible refine bx_ch w.heap.size c v ?_ ?_ ?_); exact rfl; exact rfl; intro W hr hb hz) | ((with_reducible refine ld_ckd w.heap.size c _ _ hr ?_ ?_ ?_); exact rfl; exact rfl) | ((with_reducible refine ld_crd w.heap.size c _ _ hr ?_ ?_ ?_); exact rfl; exact rfl) | ((with_reducible refine ld_cwr w.heap.size c _ _ hr ?_ ?_ ?_); exact rfl; exact rfl))
    go_ret
    exact ⟨rfl, hb⟩
set_option maxHeartbeats 1000000 in
theorem fits_any (c : Ch) (v : Value) (hr0 : 0 ≤ c.rd) (hr1 : c.rd ≤ 9223372036854775807) (hw0 : 0 ≤ c.wr) (hw1 : c.wr ≤ 9223372036854775807) (w : World) :
    Calls Tryz.prog 75 #[.agg (c.c v)] w fun e w' => e = .returned (.bool c.fit) ∧ Below w.heap.size w w' := by
  have HD := hide (fun w => databytes_any c v hr0 hr1 hw0 hw1 w)
  have HI : Hid (∀ w, Calls Tryz.prog 102 #[.int .i64 c.dat] w fun e w' => e = .returned (.bool (isDat c.dat)) ∧ w' = w) := hide (fun w => isdata_any c.dat (by unfold Ch.dat; split <;> omega) (by unfold Ch.dat; split <;> omega) w)
  unfold Ch.fit
  generalize isDat c.dat = bo at HI ⊢
  generalize c.dat = da at HD HI ⊢
  by_cases h0 : c.kd = 0
  · have t0 : ((c.kd : Int) == 0) = true := by simp; omega
    by_cases h1 : c.rd = 16
    · have hm : ((!decide (c.kd = 0) || decide (c.rd = 16)) && bo) = bo := by simp [h0, h1]
      have t1 : (c.rd != 16) = false := by simp [h1]
      have t2 : (c.rd == 16) = true := by simp [h1]
      rw [hm]
      clear h0 h1 hm
      go_enter Tryz.func75, Tryz.ntmps75
      go_wp2_with (first | ((with_reducible refine bx_ch w.heap.size c v ?_ ?_ ?_); exact rfl; exact rfl; intro W hr hb hz) | ((with_reducible refine ld_ckd w.heap.size c _ _ hr ?_ ?_ ?_); exact rfl; exact rfl) | ((with_reducible refine ld_crd w.heap.size c _ _ hr ?_ ?_ ?_); exact rfl; exact rfl) | ((with_reducible refine ld_ch w.heap.size c _ hr ?_ ?_ ?_); exact rfl; exact rfl) | (go_at_call 77; (with_reducible refine (HD.out _).mono ?_); rintro e W ⟨rfl, hbc⟩; replace hr := hr.bl hbc; replace hb := below_bl rfl hb hbc) | (go_at_call 102; (with_reducible refine (HI.out _).mono ?_); rintro e W2 ⟨rfl, rfl⟩))
      go_ret
      exact ⟨rfl, hb⟩
    · have hm : ((!decide (c.kd = 0) || decide (c.rd = 16)) && bo) = false := by simp [h0, h1]
      have t1 : (c.rd != 16) = true := by simp [h1]
      have t2 : (c.rd == 16) = false := by simp [h1]
      rw [hm]
      clear h0 h1 hm
      go_enter Tryz.func75, Tryz.ntmps75
      go_wp2_with (first | ((with_reducible refine bx_ch w.heap.size c v ?_ ?_ ?_); exact rfl; exact rfl; intro W hr hb hz) | ((with_reducible refine ld_ckd w.heap.size c _ _ hr ?_ ?_ ?_); exact rfl; exact rfl) | ((with_reducible refine ld_crd w.heap.size c _ _ hr ?_ ?_ ?_); exact rfl; exact rfl) | ((with_reducible refine ld_ch w.heap.size c _ hr ?_ ?_ ?_); exact rfl; exact rfl) | (go_at_call 77; (with_reducible refine (HD.out _).mono ?_); rintro e W ⟨rfl, hbc⟩; replace hr := hr.bl hbc; replace hb := below_bl rfl hb hbc) | (go_at_call 102; (with_reducible refine (HI.out _).mono ?_); rintro e W2 ⟨rfl, rfl⟩))
      go_ret
      exact ⟨rfl, hb⟩
  · have t0 : ((c.kd : Int) == 0) = false := by simp; omega
    have hm : ((!decide (c.kd = 0) || decide (c.rd = 16)) && bo) = bo := by simp [h0]
    rw [hm]
    clear h0 hm
    go_enter Tryz.func75, Tryz.ntmps75
    go_wp2_with (first | ((with_reducible refine bx_ch w.heap.size c v ?_ ?_ ?_); exact rfl; exact rfl; intro W hr hb hz) | ((with_reducible refine ld_ckd w.heap.size c _ _ hr ?_ ?_ ?_); exact rfl; exact rfl) | ((with_reducible refine ld_crd w.heap.size c _ _ hr ?_ ?_ ?_); exact rfl; exact rfl) | ((with_reducible refine ld_ch w.heap.size c _ hr ?_ ?_ ?_); exact rfl; exact rfl) | (go_at_call 77; (with_reducible refine (HD.out _).mono ?_); rintro e W ⟨rfl, hbc⟩; replace hr := hr.bl hbc; replace hb := below_bl rfl hb hbc) | (go_at_call 102; (with_reducible refine (HI.out _).mono ?_); rintro e W2 ⟨rfl, rfl⟩))
    go_ret
    exact ⟨rfl, hb⟩
attribute [local go_sem] Rq.at2 Rq.at4
set_option maxHeartbeats 1000000 in
theorem ansbytes_any (c : Rq) (v : Value) (w : World) :
    Calls Tryz.prog 48 #[.agg (c.c v)] w fun e w' => e = .returned (.int .i64 (if c.wr = true then 0 else c.n)) ∧ Below w.heap.size w w' := by
  by_cases h1 : c.wr = true
  · rw [if_pos h1]
    go_enter Tryz.func48, Tryz.ntmps48
    go_wp2_with (first | ((with_reducible refine bx_rq w.heap.size c v ?_ ?_ ?_); exact rfl; exact rfl; intro W hr hb hz; have fx := hr.cell))
    go_ret
    exact ⟨rfl, hb⟩
  · rw [if_neg h1]
    have h2 : c.wr = false := by simpa using h1
    clear h1
    go_enter Tryz.func48, Tryz.ntmps48
    go_wp2_with (first | ((with_reducible refine bx_rq w.heap.size c v ?_ ?_ ?_); exact rfl; exact rfl; intro W hr hb hz; have fx := hr.cell))
    go_ret
    exact ⟨rfl, hb⟩
set_option maxHeartbeats 1000000 in
theorem failed_any (s : Bk) (ok : s.p.Ok) (v : Value) (hv : v.oneCell' = true) (w : World) :
    Calls Tryz.prog 32 #[.agg (s.c v)] w fun e w' => e = .returned (.agg (s.fail.c v)) ∧ Below w.heap.size w w' := by
  have HF := hide (fun w => fail_any s.p ok w)
  go_enter Tryz.func32, Tryz.ntmps32
  go_wp2_with (first | ((with_reducible refine bx_bk w.heap.size s v ?_ ?_ ?_); exact rfl; exact rfl; intro W hr hb hz) | ((with_reducible refine al_bk (w.heap.size + 1) ?_ ?_); exact hz.out; intro W hq hb' hz'; replace hr := hr.bl (hz.out ▸ hb'); replace hb := hb.trans (hb'.mono (by omega)); replace hz := hz') | ((with_reducible refine ld_bp w.heap.size s _ _ hr ?_ ?_ ?_); exact rfl; exact rfl) | (go_at_call 68; (with_reducible refine (HF.out _).mono ?_); rintro e W ⟨rfl, hbc⟩; replace hr := hr.bl hbc; replace hq := hq.bl hbc; replace hb := below_bl rfl hb hbc) | ((with_reducible refine st_bp w.heap.size s _ (failV s.p) _ hr ?_ ?_ ?_); exact rfl; exact rfl; intro W hnew ho; replace hq := hq.only ho (by omega); replace hr := hnew; replace hb := ho.bel _ _ (by omega) hb) | ((with_reducible refine ld_bk w.heap.size (s.pw (failV s.p)) _ hr ?_ ?_ ?_); exact rfl; exact rfl) | ((with_reducible refine st_bk (w.heap.size + 1) _ _ (s.pw (failV s.p)) v hv hq ?_ ?_ ?_); exact rfl; exact rfl; intro W hnew ho; replace hr := hr.only ho (by omega); replace hq := hnew; replace hb := ho.bel _ _ (by omega) hb))
  refine bodyPost_ret (results_cell_row Tryz.results32 _ _ (w.heap.size + 1) _ _ _ _ rfl hq Tryz.underlying53 rfl size_bk) rfl ?_
  exact ⟨rfl, hb⟩
end Go.Proofs.YtaaiockiojejeaaGreatDoor
namespace Go.Proofs.YtaaiockiojejeaaGreatDoor
open Go.RowKit
set_option linter.unusedVariables false
set_option linter.unusedSimpArgs false

theorem wroteF_nil (f : Nat → Nat) (a : Nat) : wroteF f a [] = f := by
  funext x; unfold wroteF; rw [if_neg (by simp)]
theorem parts_skip {wr b : Bool} {n m : Int} {a : Nat} {t : List Sg} (h : b ≠ wr) : partsV wr n (⟨a, m, b⟩ :: t) = partsV wr n t := by rw [partsV, if_neg (fun q => h q.1)]
theorem parts_void {wr b : Bool} {n m : Int} {a : Nat} {t : List Sg} (h : m ≤ 0) : partsV wr n (⟨a, m, b⟩ :: t) = partsV wr n t := by
  rw [partsV, if_neg (fun q => absurd q.2.1 (by show ¬ 0 < m; omega))]
theorem parts_have {wr : Bool} {n m : Int} {a : Nat} {t : List Sg} (h2 : 0 < m) (h3 : m ≤ n) : partsV wr n (⟨a, m, wr⟩ :: t) = ⟨a, m, wr⟩ :: partsV wr (n - m) t := by
  rw [partsV, if_pos ⟨rfl, h2, by omega⟩]
  show (⟨a, if m ≤ n then m else n, wr⟩ : Sg) :: partsV wr (n - if m ≤ n then m else n) t = _
  rw [if_pos h3]
theorem more0 {n : Int} (h0 : 0 ≤ n) (h1 : n ≤ 9223372036854775807) : moreN 0 n = n := by
  unfold moreN; rw [if_pos h0, if_pos (by omega)]; omega
theorem WordAt.lies (g : Nat → Nat → Nat) (k a v : Nat) (ha : a % 4 = 0) (hv : wordL g k a = v) : WordAt (laidW g k) a v := hv ▸ WordAt.laid g k a ha
theorem seg_cells (f : Nat → Nat) (a : Nat) (n : Int) (b : Bool) : segF f ⟨a, n, b⟩ = (List.range n.toNat).map fun j => f (plM a + j) := rfl
theorem moreN_of {s n : Int} (h0 : 0 ≤ s) (h1 : 0 ≤ n) (h2 : s + n ≤ 9223372036854775807) : moreN s n = s + n := by
  unfold moreN; rw [if_pos h1, if_pos (by omega)]
/-- The head of a chain. -/
def hed16 (f : Nat → Nat) : List Nat := (List.range 16).map fun j => f (768 + j)
theorem nm_kind {f : Nat → Nat} {v : Nat} (h : WordAt f 768 v) (hv : v < 256) : nmL ((hed16 f).take 4) = v := by
  show f (768 + 0) + 256 * (f (768 + 1) + 256 * (f (768 + 2) + 256 * (f (768 + 3) + 256 * 0))) = v
  rw [h.b0, h.b1, h.b2, h.b3]
  simp only [Nat.pow_zero, Nat.div_one, Nat.pow_one, Nat.reducePow]; omega
theorem nm_sect {f : Nat → Nat} {v : Nat} (h : WordAt f 776 v) (h2 : WordAt f 780 0) (hv : v < 256) : nmL (((hed16 f).drop 8).take 8) = v := by
  show f (776 + 0) + 256 * (f (776 + 1) + 256 * (f (776 + 2) + 256 * (f (776 + 3) + 256 * (f (780 + 0) + 256 * (f (780 + 1) + 256 * (f (780 + 2) + 256 * (f (780 + 3) + 256 * 0))))))) = v
  rw [h.b0, h.b1, h.b2, h.b3, h2.b0, h2.b1, h2.b2, h2.b3]
  simp only [Nat.pow_zero, Nat.div_one, Nat.pow_one, Nat.reducePow, Nat.zero_div, Nat.zero_mod]; omega
theorem stp_end {f : Nat → Nat} (h : WordAt f 256 65536) (s : Bk) (hs : s.p.q0.r = lR 1 0) (a : List Ak) : stpV 2 ⟨f, s, a⟩ = (false, ⟨f, { s with be := false }, a⟩) := by
  unfold stpV
  simp only [hs, next_two h]
  simp
theorem nxt_one (q : Rq) (h : q.id = 0) : nxtV [q] 2 0 = 1 := by
  have e0 : idxQ [q] 0 = 0 := by unfold idxQ; simp [List.findIdx?_cons, h]
  have e1 : idxQ [q] 1 = -1 := by unfold idxQ; simp [List.findIdx?_cons, h]
  rw [nxtV, e0, if_neg (by decide), nxtV, if_pos (by rw [e1]; decide)]
/-- The disk, when a chain was taken. -/
def lvT : Bk := ⟨lvP 1 0 0, 100, true, 0, []⟩
theorem lv_ring : lvS.ring (lR 1 0) = lvT := by kernel_rfl
theorem ent_one (f : Nat → Nat) (c : Ch) : (entV f lvT c).1 = ⟨lvP 1 0 0, 100, true, 1, [reqV lvT c]⟩ := by
  have h : (entV f lvT c).1 = ⟨lvT.p, lvT.sc, lvT.be, nxtV (lvT.l ++ [reqV lvT c]) (lvT.l.length + 2) lvT.nx, lvT.l ++ [reqV lvT c]⟩ := rfl
  rw [h, show lvT.l = [] from rfl, show lvT.nx = 0 from rfl, List.nil_append, List.length_nil, Nat.zero_add, nxt_one _ rfl]
  rfl
theorem srv_one (f : Nat → Nat) (c : Ch) (hk : c.kd = 0 ∨ c.kd = 1) (hw : isWit 100 c.se c.dat.toNat = true) : srvV 2 f lvT c = (f, ⟨lvP 1 0 0, 100, true, 1, [reqV lvT c]⟩, [(entV f lvT c).2]) := by
  unfold srvV
  rw [if_neg (by omega), if_pos (by unfold Ch.mov; rcases hk with e | e <;> rw [e] <;> decide), if_pos (show isWit lvT.sc c.se c.dat.toNat = true from hw), ent_one]
theorem stp_go {p : Nat} {f : Nat → Nat} {s : Bk} {a : List Ak} {r : Rg} {hd : Nat} {c : Ch} (h1 : nextV p f s.p.q0.r = (r, hd, true, 0)) (h2 : lookV p f r ((hd : Nat) : Int) = some c) : stpV p ⟨f, s, a⟩ = (true, ⟨(srvV p f (s.ring r) c).1, (srvV p f (s.ring r) c).2.1, a ++ (srvV p f (s.ring r) c).2.2⟩) := by
  unfold stpV
  simp only [h1]
  rw [h2]
  rfl
/-- One chain is taken and asked for. -/
theorem pol_ask {f : Nat → Nat} (h1 : WordAt f 256 65536) (h2 : WordAt f 260 0) {c : Ch} (hl : lookV 2 f (lR 1 0) ((0 : Nat) : Int) = some c) (hk : c.kd = 0 ∨ c.kd = 1) (hw : isWit 100 c.se c.dat.toNat = true) :
    polV 2 f lvS = ⟨f, ⟨lvP 1 0 0, 100, false, 1, [reqV lvT c]⟩, [(entV f lvT c).2]⟩ := by
  have hn : nextV 2 f lvS.p.q0.r = (lR 1 0, 0, true, 0) := next_one h1 h2
  have hst := stp_go (a := []) hn hl
  rw [lv_ring, srv_one f c hk hw] at hst
  exact pol_one (by kernel_rfl) hst (by show 0 < 8; decide) (by show 1 < 8; decide) (stp_end h1 _ rfl _)
def rdL (c : Nat) : List Sg := [⟨2147487744, (c : Nat), true⟩, ⟨2147488768, ((513 - c : Nat) : Int), true⟩]
def rdQ (k c : Nat) : Rq := ⟨0, 0, false, k, 512, rdL c⟩
def rdS (k c : Nat) : Bk := ⟨lvP 1 0 0, 100, false, 1, [rdQ k c]⟩
def rdA (k : Nat) : Ak := ⟨0, false, k, 512, []⟩
theorem look_of {p : Nat} {f : Nat → Nat} {r : Rg} {hd : Int} {ps : List Sg} (h : walkV p f r hd = some ps) (hc : (decide (16 ≤ (hedF f ps).length) && (decide (1 ≤ roomV true 0 ps) && (!(chOf f hd ps).mov || (chOf f hd ps).fit))) = true) : lookV p f r hd = some (chOf f hd ps) := by
  unfold lookV
  rw [h]
  exact if_pos hc
theorem plM_768 : plM 2147484416 = 768 := by kernel_rfl
theorem rd_look {f : Nat → Nat} {c k : Nat} (h : Off3 f 2147484416 16 2147487744 c 131075 2147488768 (513 - c) 2) (h0 : WordAt f 768 0) (h1 : WordAt f 776 k) (h2 : WordAt f 780 0) (hc : c ≤ 512) (hk : k < 99) :
    lookV 2 f (lR 1 0) ((0 : Nat) : Int) = some ⟨0, 0, k, ⟨2147484416, 16, false⟩ :: rdL c, 16, 513⟩ := by
  have hw := walk_three h 1 0 (by decide) (by decide) (by decide) (by decide) (by omega) (by omega) (.inr rfl) rfl (by omega) (plB_at 768 16 (by decide)) (plB_at 4096 c (by omega)) (plB_at 5120 _ (by omega))
  rw [show decide ((131075 : Nat) = 131075) = true from rfl] at hw
  have hh : hedF f (⟨2147484416, 16, false⟩ :: rdL c) = hed16 f := by
    unfold hedF
    unfold rdL
    simp only [firL]
    rw [if_pos (show (16 : Int) ≤ 16 by decide), parts_have (by decide) (by decide), parts_skip (by decide), parts_skip (by decide)]
    show segF f _ ++ [] = _
    rw [List.append_nil, seg_cells, plM_768]
    rfl
  have r0 : roomV false 0 (⟨2147484416, 16, false⟩ :: rdL c) = 16 := by kernel_rfl
  have r1 : roomV true 0 (⟨2147484416, 16, false⟩ :: rdL c) = 513 := by
    show moreN (moreN 0 (c : Nat)) ((513 - c : Nat) : Int) = 513
    rw [more0 (by omega) (by omega), moreN_of (by omega) (by omega) (by omega)]; omega
  have hch : chOf f 0 (⟨2147484416, 16, false⟩ :: rdL c) = ⟨0, 0, k, ⟨2147484416, 16, false⟩ :: rdL c, 16, 513⟩ := by
    unfold chOf
    rw [hh, nm_kind h0 (by decide), nm_sect h1 h2 (by omega), r0, r1]
  have hcond : (decide (16 ≤ (hedF f (⟨2147484416, 16, false⟩ :: rdL c)).length) && (decide (1 ≤ roomV true 0 (⟨2147484416, 16, false⟩ :: rdL c)) && (!(chOf f 0 (⟨2147484416, 16, false⟩ :: rdL c)).mov || (chOf f 0 (⟨2147484416, 16, false⟩ :: rdL c)).fit))) = true := by
    rw [hch, hh, r1]
    kernel_rfl
  exact (look_of hw hcond).trans (congrArg some hch)
theorem wit_ok {k : Nat} (hk : k < 99) : isWit 100 k 512 = true := by
  unfold isWit
  rw [decide_eq_true (show k ≤ 100 by omega), decide_eq_true (show 512 / 512 ≤ 100 - k by omega)]
  rfl
theorem rd_pol {f : Nat → Nat} {c k : Nat} (h : Off3 f 2147484416 16 2147487744 c 131075 2147488768 (513 - c) 2) (h0 : WordAt f 768 0) (h1 : WordAt f 776 k) (h2 : WordAt f 780 0) (hc : c ≤ 512) (hk : k < 99) :
    polV 2 f lvS = ⟨f, rdS k c, [rdA k]⟩ := by
  rw [pol_ask h.cnt h.hed (rd_look h h0 h1 h2 hc hk) (.inl rfl) (by
    exact wit_ok hk)]
  have e1 : reqV lvT ⟨0, 0, k, ⟨2147484416, 16, false⟩ :: rdL c, 16, 513⟩ = rdQ k c := by
    show Rq.mk 0 0 false (k % 4294967296) 512 (rdL c) = _
    rw [Nat.mod_eq_of_lt (by omega)]; rfl
  have e2 : (entV f lvT ⟨0, 0, k, ⟨2147484416, 16, false⟩ :: rdL c, 16, 513⟩).2 = rdA k := by
    show Ak.mk 0 false (k % 4294967296) 512 [] = _
    rw [Nat.mod_eq_of_lt (by omega)]; rfl
  rw [e1, e2]; rfl
/-- What memory is, when the disk answered. -/
def rdF (f : Nat → Nat) (c : Nat) (b : List Nat) : Nat → Nat := giveF (lR 1 0) (wroteF (wroteF f 4096 (b.take c)) 5120 ((b.drop c).take (513 - c))) 0 513
theorem rd_scat (f : Nat → Nat) (c : Nat) (hc : c ≤ 512) (b : List Nat) : scatF f (partsV true 513 (rdL c)) b = wroteF (wroteF f 4096 (b.take c)) 5120 ((b.drop c).take (513 - c)) := by
  unfold rdL
  rcases Nat.eq_zero_or_pos c with e | e
  · subst e
    rw [parts_void (by simp), parts_have (by simp) (by simp)]
    show wroteF f (plM 2147488768) (b.take 513) = _
    rw [List.take_zero, wroteF_nil, List.drop_zero]; rfl
  · rw [parts_have (by show 0 < ((c : Nat) : Int); omega) (by show ((c : Nat) : Int) ≤ 513; omega), parts_have (by show 0 < ((513 - c : Nat) : Int); omega) (by show ((513 - c : Nat) : Int) ≤ 513 - ((c : Nat) : Int); omega)]
    show wroteF (wroteF f (plM 2147487744) (b.take ((c : Nat) : Int).toNat)) (plM 2147488768) ((b.drop ((c : Nat) : Int).toNat).take ((513 - c : Nat) : Int).toNat) = _
    rw [Int.toNat_natCast, Int.toNat_natCast]; rfl
theorem rd_ans (f : Nat → Nat) (c k : Nat) (hc : c ≤ 512) (b : List Nat) (hb : b.length = 513) : (ansV 2 f (rdS k c) 0 (rdL c) b).1 = rdF f c b ∧ ((ansV 2 f (rdS k c) 0 (rdL c) b).2).p.st = 15 := by
  have hs : scatE 2 (rdL c) 513 = 0 := by
    unfold scatE
    have r1 : roomV true 0 (rdL c) = 513 := by
      show moreN (moreN 0 (c : Nat)) ((513 - c : Nat) : Int) = 513
      rw [more0 (by omega) (by omega), moreN_of (by omega) (by omega) (by omega)]; omega
    rw [r1, if_neg (by decide), if_pos]
    rcases Nat.eq_zero_or_pos c with e | e
    · subst e; rfl
    · unfold rdL
      rw [show ((513 : Nat) : Int) = 513 from rfl, parts_have (by show 0 < ((c : Nat) : Int); omega) (by show ((c : Nat) : Int) ≤ 513; omega), parts_have (by show 0 < ((513 - c : Nat) : Int); omega) (by show ((513 - c : Nat) : Int) ≤ 513 - ((c : Nat) : Int); omega)]
      show (inS 2 ⟨2147487744, (c : Nat), true⟩ && (inS 2 ⟨2147488768, ((513 - c : Nat) : Int), true⟩ && true)) = true
      unfold inS
      rw [Int.toNat_natCast, Int.toNat_natCast, plB_at 4096 c (by omega), plB_at 5120 _ (by omega)]
      rfl
  have hg : giveV 2 (wroteF (wroteF f 4096 (b.take c)) 5120 ((b.drop c).take (513 - c))) (lR 1 0) 0 513 = (rdF f c b, some (lR 1 1)) := by
    unfold giveV
    rw [if_pos (lR_chk 1 0), if_pos (by decide), if_pos (by kernel_rfl), if_pos (by kernel_rfl)]
    rfl
  unfold ansV
  rw [hb, if_pos hs, show ((513 : Nat) : Int) = 513 from rfl, rd_scat f c hc b, show (rdS k c).p.q0.r = lR 1 0 from rfl, hg]
  exact ⟨rfl, rfl⟩
theorem rdF_a (f : Nat → Nat) (c : Nat) (hc : c ≤ 512) (b : List Nat) (hb : b.length = 513) (j : Nat) (hj : j < c) : rdF f c b (4096 + j) = (b[j]?).getD 0 := by
  unfold rdF giveF
  rw [show plM (usH (lR 1 0)) = 516 by kernel_rfl, show plM (usN (lR 1 0)) = 520 by kernel_rfl, show plM (usC (lR 1 0)) = 514 by kernel_rfl]
  unfold wroteF
  simp only [numB_len, List.length_take, List.length_drop, hb]
  rw [if_neg (by omega), if_neg (by omega), if_neg (by omega), if_neg (by omega), if_pos (by omega), show 4096 + j - 4096 = j by omega, List.getElem?_take, if_pos hj]
theorem rdF_b (f : Nat → Nat) (c : Nat) (hc : c ≤ 512) (b : List Nat) (hb : b.length = 513) (j : Nat) (hj : j < 513 - c) : rdF f c b (5120 + j) = (b[c + j]?).getD 0 := by
  unfold rdF giveF
  rw [show plM (usH (lR 1 0)) = 516 by kernel_rfl, show plM (usN (lR 1 0)) = 520 by kernel_rfl, show plM (usC (lR 1 0)) = 514 by kernel_rfl]
  unfold wroteF
  simp only [numB_len, List.length_take, List.length_drop, hb]
  rw [if_neg (by omega), if_neg (by omega), if_neg (by omega), if_pos (by omega), show 5120 + j - 5120 = j by omega, List.getElem?_take, if_pos hj, List.getElem?_drop]
/-- The write. -/
def woP (c : Nat) : List Sg := [⟨2147484416, ((16 + c : Nat) : Int), false⟩, ⟨2147487744, ((512 - c : Nat) : Int), false⟩, ⟨2147488768, 1, true⟩]
def woQ (k : Nat) : Rq := ⟨0, 0, true, k, 512, [⟨2147488768, 1, true⟩]⟩
def woS (k : Nat) : Bk := ⟨lvP 1 0 0, 100, false, 1, [woQ k]⟩
def woA (k : Nat) (d : List Nat) : Ak := ⟨0, true, k, 512, d⟩
def woD (f : Nat → Nat) (c : Nat) : List Nat := (gathF f (partsV false maxI (woP c))).drop 16
/-- The words of a read, and of a write. -/
def rdG (c k : Nat) : Nat → Nat → Nat
  | 0, 0 => 0 | 0, _ => 2147484416 | 1, 0 => 8 | 1, _ => 16 | 2, 0 => 12 | 2, _ => 65537 | 3, 0 => 16 | 3, _ => 2147487744 | 4, 0 => 24 | 4, _ => c | 5, 0 => 28 | 5, _ => 131075
  | 6, 0 => 32 | 6, _ => 2147488768 | 7, 0 => 40 | 7, _ => 513 - c | 8, 0 => 44 | 8, _ => 2 | 9, 0 => 256 | 9, _ => 65536 | _, 0 => 776 | _, _ => k
def woG (c k : Nat) : Nat → Nat → Nat
  | 0, 0 => 0 | 0, _ => 2147484416 | 1, 0 => 8 | 1, _ => 16 + c | 2, 0 => 12 | 2, _ => 65537 | 3, 0 => 16 | 3, _ => 2147487744 | 4, 0 => 24 | 4, _ => 512 - c | 5, 0 => 28 | 5, _ => 131073
  | 6, 0 => 32 | 6, _ => 2147488768 | 7, 0 => 40 | 7, _ => 1 | 8, 0 => 44 | 8, _ => 2 | 9, 0 => 256 | 9, _ => 65536 | 10, 0 => 768 | 10, _ => 1 | _, 0 => 776 | _, _ => k
theorem rd_off (c k : Nat) : Off3 (laidW (rdG c k) 11) 2147484416 16 2147487744 c 131075 2147488768 (513 - c) 2 := by
  exact ⟨WordAt.lies (rdG c k) 11 256 _ (by decide) (by kernel_rfl), WordAt.lies (rdG c k) 11 260 _ (by decide) (by kernel_rfl), WordAt.lies (rdG c k) 11 0 _ (by decide) (by kernel_rfl), WordAt.lies (rdG c k) 11 4 _ (by decide) (by kernel_rfl), WordAt.lies (rdG c k) 11 8 _ (by decide) (by kernel_rfl), WordAt.lies (rdG c k) 11 12 _ (by decide) (by kernel_rfl), WordAt.lies (rdG c k) 11 16 _ (by decide) (by kernel_rfl), WordAt.lies (rdG c k) 11 20 _ (by decide) (by kernel_rfl), WordAt.lies (rdG c k) 11 24 _ (by decide) (by kernel_rfl), WordAt.lies (rdG c k) 11 28 _ (by decide) (by kernel_rfl), WordAt.lies (rdG c k) 11 32 _ (by decide) (by kernel_rfl), WordAt.lies (rdG c k) 11 36 _ (by decide) (by kernel_rfl), WordAt.lies (rdG c k) 11 40 _ (by decide) (by kernel_rfl), WordAt.lies (rdG c k) 11 44 _ (by decide) (by kernel_rfl)⟩
theorem Off3.wrote {f : Nat → Nat} {a0 n0 a1 n1 x1 a2 n2 x2 b : Nat} {l : List Nat} (h : Off3 f a0 n0 a1 n1 x1 a2 n2 x2) (hb : 264 ≤ b) : Off3 (wroteF f b l) a0 n0 a1 n1 x1 a2 n2 x2 :=
  ⟨h.cnt.before (by omega), h.hed.before (by omega), h.d00.before (by omega), h.d01.before (by omega), h.d02.before (by omega), h.d03.before (by omega), h.d10.before (by omega), h.d11.before (by omega), h.d12.before (by omega), h.d13.before (by omega), h.d20.before (by omega), h.d21.before (by omega), h.d22.before (by omega), h.d23.before (by omega)⟩
theorem rd_laid (c k : Nat) (hc : c ≤ 512) (hk : k < 99) : polV 2 (laidW (rdG c k) 11) lvS = ⟨laidW (rdG c k) 11, rdS k c, [rdA k]⟩ :=
  rd_pol (rd_off c k) (WordAt.lies (rdG c k) 11 768 _ (by decide) (by kernel_rfl)) (WordAt.lies (rdG c k) 11 776 _ (by decide) (by kernel_rfl)) (WordAt.lies (rdG c k) 11 780 _ (by decide) (by kernel_rfl)) hc hk
end Go.Proofs.YtaaiockiojejeaaGreatDoor
