/-
  BlkWrites, walked.
-/
import Derived.Test.YtaaiockiojejeaaGreatDoorJW38
import Derived.Test.YtaaiockiojejeaaGreatDoorJW30
import Derived.Test.YtaaiockiojejeaaGreatDoorJW39
namespace Go.Proofs.YtaaiockiojejeaaGreatDoor
open Go.RowKit
set_option linter.unusedVariables false
set_option linter.unusedSimpArgs false

variable {ops : Array Oper} {rest : List Oper} {dst : Option Tmp} {ty : TypeId} {pos : String} {after : Array Edge} {a : Act} {w : World} {Q : Exit → Act → World → Prop} {K : Act → World → Prop} {x y : Operand} {gd : Option (Nat × Bool)}
def wrC (c k : Nat) : Array Value := #[.int .u32 (0), .int .u32 (2147484416), .int .u32 (8), .int .u32 (16 + (c : Int)), .int .u32 (12), .int .u32 (65537), .int .u32 (16), .int .u32 (2147487744), .int .u32 (24), .int .u32 (512 - (c : Int)), .int .u32 (28), .int .u32 (131073), .int .u32 (32), .int .u32 (2147488768), .int .u32 (40), .int .u32 (1), .int .u32 (44), .int .u32 (2), .int .u32 (256), .int .u32 (65536), .int .u32 (768), .int .u32 (1), .int .u32 (776), .int .u32 ((k : Nat))]
theorem bs_wr (c k : Nat) (N : Nat) (hN : w.heap.size = N) (x0 x1 x2 x3 x4 x5 x6 x7 x8 x9 x10 x11 : Operand) (h0 : a.eval x0 = .agg #[.int .u32 (0), .int .u32 (2147484416)]) (h1 : a.eval x1 = .agg #[.int .u32 (8), .int .u32 (16 + (c : Int))]) (h2 : a.eval x2 = .agg #[.int .u32 (12), .int .u32 (65537)]) (h3 : a.eval x3 = .agg #[.int .u32 (16), .int .u32 (2147487744)]) (h4 : a.eval x4 = .agg #[.int .u32 (24), .int .u32 (512 - (c : Int))]) (h5 : a.eval x5 = .agg #[.int .u32 (28), .int .u32 (131073)]) (h6 : a.eval x6 = .agg #[.int .u32 (32), .int .u32 (2147488768)]) (h7 : a.eval x7 = .agg #[.int .u32 (40), .int .u32 (1)]) (h8 : a.eval x8 = .agg #[.int .u32 (44), .int .u32 (2)]) (h9 : a.eval x9 = .agg #[.int .u32 (256), .int .u32 (65536)]) (h10 : a.eval x10 = .agg #[.int .u32 (768), .int .u32 (1)]) (h11 : a.eval x11 = .agg #[.int .u32 (776), .int .u32 ((k : Nat))])
    (kont : ∀ W, RowAt W N (wrC c k) 23 → Below N w W → Hid (W.heap.size = N + 1) → wpList Tryz.prog ops Q rest (a.put dst (.slice (some ⟨N, 0, none⟩) 12 12)) W) :
    wpList Tryz.prog ops Q (⟨dst, .buildSlice 35 12 #[(0, x0), (1, x1), (2, x2), (3, x3), (4, x4), (5, x5), (6, x6), (7, x7), (8, x8), (9, x9), (10, x10), (11, x11)], ty, pos, after, none⟩ :: rest) a w :=
  op_bsn 35 23 12 Tryz.underlying35 (wrC c k) N hN [(0, .agg #[.int .u32 (0), .int .u32 (2147484416)]), (1, .agg #[.int .u32 (8), .int .u32 (16 + (c : Int))]), (2, .agg #[.int .u32 (12), .int .u32 (65537)]), (3, .agg #[.int .u32 (16), .int .u32 (2147487744)]), (4, .agg #[.int .u32 (24), .int .u32 (512 - (c : Int))]), (5, .agg #[.int .u32 (28), .int .u32 (131073)]), (6, .agg #[.int .u32 (32), .int .u32 (2147488768)]), (7, .agg #[.int .u32 (40), .int .u32 (1)]), (8, .agg #[.int .u32 (44), .int .u32 (2)]), (9, .agg #[.int .u32 (256), .int .u32 (65536)]), (10, .agg #[.int .u32 (768), .int .u32 (1)]), (11, .agg #[.int .u32 (776), .int .u32 ((k : Nat))])] (by simp [h0, h1, h2, h3, h4, h5, h6, h7, h8, h9, h10, h11]) ⟨by kernel_rfl⟩ kont
theorem pairs_wr (c k : Nat) {W : World} {N B : Nat} (h : RowAt W N (wrC c k) 23) (hB : N < B) (hc : c ≤ 512) (hk : k < 99) : PairsAt W B (some ⟨N, 0, none⟩) 12 (woG c k) := by
  refine ⟨fun j hj => ⟨N, 0, rfl, hB, ?_, ?_⟩, fun j hj => ?_⟩
  · rw [h.cell]; rcases j with _ | _ | _ | _ | _ | _ | _ | _ | _ | _ | _ | _ | j <;> first | rfl | omega
  · rw [h.cell]; rcases j with _ | _ | _ | _ | _ | _ | _ | _ | _ | _ | _ | _ | j <;> first | rfl | omega | (simp [wrC, woG]; done) | (simp [wrC, woG]; omega)
  · rcases j with _ | _ | _ | _ | _ | _ | _ | _ | _ | _ | _ | _ | j <;> first | (constructor <;> decide) | omega | (constructor <;> first | decide | (simp [woG]; done) | (simp [woG]; omega))
theorem woQ_ok {k : Nat} (hk : k < 99) : (woQ k).Ok := ⟨by show 0 < _; decide, by show (_ : Int) ≤ 0; decide, by show (0 : Int) ≤ _; decide, by show k < _; omega, by show (_ : Int) ≤ 512; decide, by show (512 : Int) ≤ _; decide, fun g hg => by obtain rfl := List.mem_singleton.1 hg; exact ⟨by decide, by decide, by decide⟩, by show 1 ≤ _; decide⟩
theorem woS_ok {k : Nat} (hk : k < 99) : (woS k).Ok := ⟨lvP_ok (by decide) (by decide) (by decide), by show 100 < _; decide, by show 1 < _; decide, fun q h => by obtain rfl := List.mem_singleton.1 h; exact woQ_ok hk, by show 1 ≤ _; decide⟩
/-- The data of what is asked for, as a text. -/
theorem ak_conv {W : World} {B : Nat} {O : Nat → Prop} {k : Ak} {dv : Value} (h : AkAt W B O k dv) (hk : k.da ≠ []) : (convert 37 9 dv).run Tryz.prog W = .ok (.string (txtR k.da)) W := by
  rcases h.ex with ⟨h1, _⟩ | ⟨g, cap, all, rfl, h2, h3, h4, h5, h6⟩
  · exact absurd h1 hk
  · obtain ⟨g', cap', hve, _, _, _, hlt, hcl⟩ := own_pos h2 (by omega)
    have hgg : g = g' := congrArg Addr.block (Option.some.inj (Value.slice.inj hve).1)
    subst hgg
    have hB : BytesAt W W.heap.size (some ⟨g, 16, none⟩) k.da := ⟨fun _ => ⟨g, 16, rfl, hlt, fun j hj => by
      refine hcl (16 + j) _ ?_
      have hj' : 16 + j < all.length := by rw [h4, List.length_drop] at hj; omega
      simp only [byteV, List.getElem?_map, List.getElem?_eq_getElem hj', Option.map_some, h4, List.getElem_drop]⟩, fun y hy => h6 y (List.mem_of_mem_drop (h4 ▸ hy))⟩
    have h := conv_in hB (Below.refl _ _) (cap - 16)
    rwa [show k.da.length = all.length - 16 by rw [h4, List.length_drop]] at h
theorem row_ty {W : World} {g : Nat} {cs cs2 : Array Value} {t t2 : TypeId} (h : RowAt W g cs t) (h2 : RowAt W g cs2 t2) : t = t2 := by
  have e := h.symm.trans h2
  injection e with e
  injection e
set_option maxRecDepth 20000 in
set_option maxHeartbeats 8000000 in
theorem writes_walk (sec cut : Int) (ba : Option Addr) (bl : List Nat) (bcap : Nat) (w : World) (hBy : BytesAt w w.heap.size ba bl) (hBc : bl.length ≤ bcap) (hBm : bcap ≤ 9223372036854775807) (hA : AreasAt w) :
    Calls Tryz.prog 7 #[.int .i64 sec, .slice ba bl.length bcap, .int .i64 cut] w fun e w' => e = .returned (.bool true) ∧ Below w.heap.size w w' := by
  obtain ⟨B, hB⟩ : ∃ B, w.heap.size = B := ⟨_, rfl⟩
  have hG0 : 2 < B := hB ▸ hA.lt
  have hG : 2 < B + 1 + 1 + 1 := by omega
  have HA0 := hide hA
  rw [hB] at hBy ⊢
  have HBy := hide hBy
  have HFS := hide (fulL_small hBy.small)
  obtain ⟨k, hk0⟩ : ∃ k : Nat, sec % 18446744073709551616 % 99 = (k : Int) := ⟨(sec % 18446744073709551616 % 99).toNat, by omega⟩
  have hk : (IntKind.u64.wrap sec).tmod 99 = (k : Int) := by rw [IntKind.wrap_u64, Int.tmod_eq_emod_of_nonneg (by omega)]; exact hk0
  obtain ⟨c, hc0⟩ : ∃ c : Nat, cut % 18446744073709551616 % 513 = (c : Int) := ⟨(cut % 18446744073709551616 % 513).toNat, by omega⟩
  have hc : (IntKind.u64.wrap cut).tmod 513 = (c : Int) := by rw [IntKind.wrap_u64, Int.tmod_eq_emod_of_nonneg (by omega)]; exact hc0
  have hkl : k < 99 := by omega
  have hcl : c ≤ 512 := by omega
  have hkm : (k : Int) % 4294967296 = (k : Int) := by omega
  have hcm : (c : Int) % 4294967296 = (c : Int) := by omega
  clear hk0 hc0
  have HBo : Hid (∀ W, W.heap.size = B + 1 + 1 → RowAt W (B + 1) (wrC c k) 23 → Calls Tryz.prog 8 #[.slice (some ⟨B + 1, 0, none⟩) 12 12] W fun e w' => ∃ b O r, e = .returned (.tuple #[.pointer (some ⟨b, 0, none⟩), .agg (RP.v r 8192 2)]) ∧ RamB w' (B + 1 + 1 + 1) b 2 (laidW (woG c k) 12) 80 O ∧ Below (B + 1 + 1) W w') := hide (fun W hz hr => by
    have h := rboth_any (some ⟨B + 1, 0, none⟩) 12 12 (woG c k) W (pairs_wr c k hr (by omega) hcl hkl) (by decide) (by decide)
    rw [hz] at h
    exact h.mono (by
      rintro e w' ⟨b, f, O, r, hf, he, h1, _, h3⟩
      rw [hf] at h1
      exact ⟨b, O, r, he, h1, h3⟩))
  have HLi := hide blive_any
  have HSu : Hid (∀ W, AreasAt W → Calls Tryz.prog 10 #[] W fun e w' => e = .returned (.bool true) ∧ Below W.heap.size W w') := hide (fun W hA => bsure_any W hA)
  have HW1 : Hid (∀ W O1 b f0 i (n m : Nat), RamB W (B + 1 + 1 + 1) b 2 f0 80 O1 → RowAt W B (fulC bl i) 5 → (fulC bl i).toList = byteV (fulL bl) → ¬ O1 B → n = c → m = 512 → Calls Tryz.prog 23 #[.pointer (some ⟨b, 0, none⟩), .int .u32 784, .slice (some ⟨B, 0, none⟩) n m] W fun e w' => e = .returned .nilIface ∧ ∃ O', RamB w' (B + 1 + 1 + 1) b 2 (wroteF f0 784 ((fulL bl).take c)) 81 O' ∧ Went (B + 1 + 1 + 1) O1 O' W w') := hide (by
    intro W O1 b f0 i n m hM hr hcc hn e1 e2
    subst e1 e2
    rcases Nat.eq_zero_or_pos n with e | e
    · subst e
      refine (write_none b 784 512 (some ⟨B, 0, none⟩) W).mono ?_
      rintro e w' ⟨rfl, rfl⟩
      exact ⟨rfl, O1, by rw [List.take_zero, wroteF_nil]; exact hM.more (by decide), Went.refl _ _ _⟩
    · exact write_b hM 784 (by decide) ((fulL bl).take n) (fun y hy => HFS.out y (List.mem_of_mem_take hy)) n (by rw [List.length_take, fulL_len]; omega) e (by omega) B 0 512 (by omega) (fun j v hj => by
        rw [Nat.zero_add]
        refine ful_cell hr hcc j v ?_
        have hj' : j < n := by have := (List.getElem?_eq_some_iff.1 hj).1; rw [byteV_len, List.length_take] at this; omega
        simp only [byteV, List.getElem?_map, List.getElem?_take, if_pos hj'] at hj ⊢
        exact hj) hr.lt hn (by decide))
  have HW2 : Hid (∀ W O1 b f0 i (o n m : Nat), RamB W (B + 1 + 1 + 1) b 2 f0 81 O1 → RowAt W B (fulC bl i) 5 → (fulC bl i).toList = byteV (fulL bl) → ¬ O1 B → (o = c ∨ c = 512) → n = 512 - c → m = 512 - c → Calls Tryz.prog 23 #[.pointer (some ⟨b, 0, none⟩), .int .u32 4096, .slice (some ⟨B, o, none⟩) n m] W fun e w' => e = .returned .nilIface ∧ ∃ O', RamB w' (B + 1 + 1 + 1) b 2 (wroteF f0 4096 ((fulL bl).drop c)) 82 O' ∧ Went (B + 1 + 1 + 1) O1 O' W w') := hide (by
    intro W O1 b f0 i o n m hM hr hcc hn e0 e1 e2
    rcases Nat.eq_zero_or_pos n with e | e
    · have e5 : c = 512 := by omega
      subst e
      refine (write_none b 4096 m (some ⟨B, o, none⟩) W).mono ?_
      rintro e w' ⟨rfl, rfl⟩
      exact ⟨rfl, O1, by rw [List.drop_eq_nil_of_le (by rw [fulL_len]; omega), wroteF_nil]; exact hM.more (by decide), Went.refl _ _ _⟩
    · obtain rfl : o = c := by omega
      exact write_b hM 4096 (by decide) ((fulL bl).drop o) (fun y hy => HFS.out y (List.mem_of_mem_drop hy)) n (by rw [List.length_drop, fulL_len]; omega) e (by omega) B o m (by omega) (fun j v hj => by
        refine ful_cell hr hcc (o + j) v ?_
        simp only [byteV, List.getElem?_map, List.getElem?_drop] at hj ⊢
        exact hj) hr.lt hn (by decide))
  obtain ⟨f2, hf2⟩ : ∃ x, wroteF (wroteF (laidW (woG c k) 12) 784 ((fulL bl).take c)) 4096 ((fulL bl).drop c) = x := ⟨_, rfl⟩
  have hpol : polV 2 f2 lvS = ⟨f2, woS k, [woA k (fulL bl)]⟩ := by
    rw [← hf2, wr_laid c k hcl hkl, wr_data _ c hcl (fulL bl) (fulL_len bl)]
  have HPo : Hid (∀ W O1 b, RamB W (B + 1 + 1 + 1) b 2 f2 82 O1 → AreasAt W → Calls Tryz.prog 12 #[.agg (lvS.c nilS), .pointer (some ⟨b, 0, none⟩)] W fun e w' => ∃ v' av qv dv O', e = .returned (.tuple #[.agg ((woS k).c v'), av]) ∧ RamB w' (B + 1 + 1 + 1) b 2 f2 262226 O' ∧ Went (B + 1 + 1 + 1) O1 O' W w' ∧ InAt w' W.heap.size O' v' [(woQ k, qv)] ∧ AsksAt w' W.heap.size O' av [(woA k (fulL bl), dv)]) := hide (fun W O1 b hM hA => poll_lv hM hA hG (by decide) hpol rfl)
  obtain ⟨f3, hf3⟩ : ∃ x, (telV 2 f2 (woS k) 0 [⟨2147488768, 1, true⟩] 1).1 = x := ⟨_, rfl⟩
  obtain ⟨s3, hs3⟩ : ∃ x, (telV 2 f2 (woS k) 0 [⟨2147488768, 1, true⟩] 1).2 = x := ⟨_, rfl⟩
  have hf35 : f3 5120 = 1 := hf3 ▸ wr_tel f2 k
  have HFi : Hid (∀ W O1 b v qv Bi, RamB W (B + 1 + 1 + 1) b 2 f2 262226 O1 → AreasAt W → InAt W Bi O1 v [(woQ k, qv)] → Calls Tryz.prog 17 #[.agg ((woS k).c v), .pointer (some ⟨b, 0, none⟩), .int .u32 0, .bool false, .slice none 0 0] W fun e w' => ∃ v' O', e = .returned (.tuple #[.agg (s3.c v'), .nilIface]) ∧ RamB w' (B + 1 + 1 + 1) b 2 f3 262230 O' ∧ Went (B + 1 + 1 + 1) O1 O' W w' ∧ InAt w' W.heap.size O' v' []) := hide (fun W O1 b v qv Bi hM hA hI => by
    have h := finish_bad (woS k) (woS_ok hkl) [(woQ k, qv)] rfl (by show 1 ≤ 90; decide) v 0 hM hA hG hI (by decide) 0 (woQ k) qv (by kernel_rfl) rfl (by show 0 < 1; decide) none 0 0
    rw [show (woQ k).l = [⟨2147488768, 1, true⟩] from rfl, show (woQ k).hd = 0 from rfl, hf3, hs3] at h
    refine h.mono ?_
    rintro e w' ⟨v', rfl, l', O', h1, h2, h3, h4⟩
    obtain rfl := map_none h1
    exact ⟨v', O', rfl, h2, h3, h4⟩)
  have HLd : Hid (∀ W O1 b, RamB W (B + 1 + 1 + 1) b 2 f3 262230 O1 → Calls Tryz.prog 24 #[.pointer (some ⟨b, 0, none⟩), .int .u32 5120, .int .i64 1] W fun e w' => e = .returned (.tuple #[.int .u32 1, .nilIface]) ∧ ∃ O', RamB w' (B + 1 + 1 + 1) b 2 f3 262230 O' ∧ Went (B + 1 + 1 + 1) O1 O' W w') := hide (fun W O1 b hM => by
    have h := load_b hM 5120 1 (by decide) (.inl rfl) (by decide) (by decide)
    rw [show numF f3 5120 1 = 1 by simp only [numF, Nat.add_zero, hf35]] at h
    refine h.mono ?_
    rintro e w' ⟨rfl, O', h1, h2⟩
    exact ⟨rfl, O', h1, h2⟩)
  have hne : (woA k (fulL bl)).da ≠ [] := fun e => by have h := fulL_len bl; rw [show (woA k (fulL bl)).da = fulL bl from rfl] at e; rw [e] at h; cases h
  have HAc : Hid (∀ (W : World) Bk O dv, AkAt W Bk O (woA k (fulL bl)) dv → (convert 37 9 dv).run Tryz.prog W = .ok (.string (txtR (fulL bl))) W) := hide (fun W Bk O dv h => ak_conv h hne)
  have HFc : Hid (∀ (W : World) i, RowAt W B (fulC bl i) 5 → (fulC bl i).toList = byteV (fulL bl) → (convert 37 9 (.slice (some ⟨B, 0, none⟩) 512 512)).run Tryz.prog W = .ok (.string (txtR (fulL bl))) W) := hide (fun W i hr hc => by
    have h := conv_in (ful_bytes hr hc HFS.out) (Below.refl _ _) 512
    rwa [fulL_len] at h)
  obtain ⟨tx, htx⟩ : ∃ x, txtR (fulL bl) = x := ⟨_, rfl⟩
  rw [htx] at HAc HFc
  have HF2 := hide hf2
  clear hA hBy hpol hf2 hf3 hs3 hf35 hne htx
  go_enter Tryz.func7, Tryz.ntmps7
  go_wp2_with (first | ((with_reducible refine mk_r 512 (by decide) B ?_ ?_ ?_ ?_); exact hB; exact rfl; exact rfl; intro W hf hb hz; rw [fulC_made bl] at hf))
  go_loopw [10] (fun iv wr => ∃ i : Nat, i ≤ bl.length ∧ i ≤ 512 ∧ iv = .int .i64 (i : Nat) ∧ RowAt wr B (fulC bl i) 5 ∧ wr.heap.size = B + 1 ∧ Below B w wr) (fun iv _ => 512 - (intOf iv).toNat)
  case atStart => exact ⟨0, Nat.zero_le _, Nat.zero_le _, rfl, hf, hz.out, hb⟩
  case round =>
    clear hf hz hb
    obtain ⟨i, hi1, hi2, rfl, hf, hz, hb⟩ := hrel
    by_cases hlt : i < bl.length ∧ i < 512
    · obtain ⟨hlt1, hlt2⟩ := hlt
      have l1 : (i : Int) < (bl.length : Int) := by omega
      have l2 : (i : Int) < 512 := by omega
      obtain ⟨db, dof, rfl, hdb, hdc⟩ := HBy.out.lies (by omega)
      have hcw : wr.cell? ⟨db, dof + i, none⟩ = some (.int .u8 (bl[i] : Nat)) := (hb.cell (p := ⟨db, dof + i, none⟩) hdb).trans (hdc i hlt1)
      have HST := hide (fulC_step bl i hlt2 bl[i] (List.getElem?_eq_getElem hlt1))
      have hsz : i < (fulC bl i).size := by rw [fulC_size]; exact hlt2
      obtain ⟨x0, hx0⟩ : ∃ x, bl[i] = x := ⟨_, rfl⟩
      rw [hx0] at hcw HST
      clear hdc hx0
      generalize bl.length = L at *
      go_wp2_with (first | ((with_reducible refine st_ful B i x0 _ _ hf hsz HST.out ?_ ?_ ?_); (first | exact rfl | (simp; done)); exact rfl; intro W hnew ho; have hzn : W.heap.size = B + 1 := (by rw [ho.size]; exact hz); replace hb := ho.bel _ _ (by omega) hb; clear hf hz; have hf := hnew; have hz := hzn; clear hnew ho hzn))
      go_roundw
      case rel => exact ⟨i + 1, hlt1, hlt2, by go_num, hf, hz, hb⟩
      case measure => simp [intOf]; omega
    · have HFE : Hid ((fulC bl i).toList = byteV (fulL bl)) := hide (fulC_end bl i (by omega))
      have hcase : (¬ i < bl.length) ∨ (i < bl.length ∧ i = 512) := by omega
      clear hlt
      rcases hcase with hcs | ⟨hcs1, hcs2⟩
      · have t1 : decide ((i : Int) < (bl.length : Int)) = false := by simp; omega
        have t1n : decide (i < bl.length) = false := by simp; omega
        go_wp2_with (first | ((with_reducible refine bs_wr c k (B + 1) ?_ _ _ _ _ _ _ _ _ _ _ _ _ ?_ ?_ ?_ ?_ ?_ ?_ ?_ ?_ ?_ ?_ ?_ ?_ ?_); exact hz; exact rfl; (first | exact rfl | (simp; omega)); exact rfl; exact rfl; (first | exact rfl | (simp; omega)); exact rfl; exact rfl; exact rfl; exact rfl; exact rfl; exact rfl; exact rfl; intro W hq hb' hz'; have hbc := hz.symm ▸ hb'; replace hf := hf.bl hbc; replace hb := hb.trans (hb'.mono (by omega)); clear hb' hbc hz) | (go_at_call 8; (with_reducible refine (HBo.out _ hz'.out hq).mono ?_); rintro e W1 ⟨b, O, r, rfl, hM, hbc⟩; (have hbq := hbc); rw [← hz'.out] at hbq; replace hf := hf.bl hbq; replace hb := hb.trans (hbc.mono (by omega)); have hA := HA0.out.belR hG0 hb; (have hnf : ¬ O B := fun e => absurd (hM.low _ e) (by omega)); obtain ⟨NX, hNX0⟩ : ∃ n, W1.heap.size = n := ⟨_, rfl⟩; have hNX := hide hNX0; have hNB : B + 1 + 1 + 1 ≤ NX := hNX0 ▸ hM.base; have hnx : ¬ O NX := (fun e => absurd (hM.lt _ e) (by omega)); clear hNX0 hbc hbq hq hz') | ((with_reducible refine al_Rz NX ?_ ?_); exact hNX.out; intro W hx hb' hz2; have hbc : Below W1.heap.size W1 W := (by rw [hNX.out]; exact hb'); replace hb := hb.trans (hb'.mono (by omega)); replace hM := hM.bl hbc; replace hA := hA.bl hbc; replace hf := hf.bl hbc; clear hb' hbc hz2) | ((with_reducible refine st_R NX _ r 8192 2 hx ?_ ?_ ?_ ?_); exact rfl; exact rfl; exact rfl; intro W hnew hoo; replace hM := hM.only hoo hnx; replace hA := hA.onlyR hoo (by omega); replace hf := hf.only hoo (by omega); replace hb := hoo.bel _ _ (by omega) hb; clear hnew hoo hx hnx hNX) | (go_at_call 23; (with_reducible refine (HW1.out _ _ _ _ _ _ _ hM hf HFE.out hnf ?_ ?_).mono ?_); (first | exact rfl | omega | (simp; done)); (first | exact rfl | omega | (simp; done)); rintro e W2 ⟨rfl, O2, hM2, hW2⟩; (have hnn := hW2.no hf.lt hnf); replace hf := hW2.row hf hnf; replace hb := hb.trans (hW2.below.mono (by omega)); replace hA := hA.wentR hG hW2; clear hM hnf; have hM := hM2; have hnf := hnn; clear hM2 hW2 hnn) | (go_at_call 23; (with_reducible refine (HW2.out _ _ _ _ _ _ _ _ hM hf HFE.out hnf ?_ ?_ ?_).mono ?_); (first | exact .inl rfl | exact .inr (by omega)); (first | exact rfl | omega | (simp; done)); (first | exact rfl | omega | (simp; done)); rintro e W2 ⟨rfl, O2, hM2, hW2⟩; rw [HF2.out] at hM2; (have hnn := hW2.no hf.lt hnf); replace hf := hW2.row hf hnf; replace hb := hb.trans (hW2.below.mono (by omega)); replace hA := hA.wentR hG hW2; clear hM hnf; have hM := hM2; have hnf := hnn; clear hM2 hW2 hnn) | (go_at_call 20; (with_reducible refine (HLi.out _).mono ?_); rintro e W ⟨rfl, hbc⟩; replace hb := hb.trans (hbc.mono (by have := hM.base; omega)); replace hM := hM.bl hbc; replace hA := hA.bl hbc; replace hf := hf.bl hbc; clear hbc) | (go_at_call 12; (with_reducible refine (HPo.out _ _ _ hM hA).mono ?_); rintro e W2 ⟨v1, av, qv, dv, O2, rfl, hM2, hW2, hI, hK⟩; (have hnn := hW2.no hf.lt hnf); replace hf := hW2.row hf hnf; replace hb := hb.trans (hW2.below.mono (by omega)); replace hA := hA.wentR hG hW2; clear hM hnf; have hM := hM2; have hnf := hnn; clear hM2 hW2 hnn; (have hDv := hK.dat _ (List.mem_singleton.2 rfl)); (obtain ⟨ga, ca, cur, rfl, hga, hgo, hgr, k0, k1, k2, k3, k4⟩ := asks_one hK); (have hv1o := own_one hI.row); obtain ⟨NR, hNR0⟩ : ∃ n, W2.heap.size = n := ⟨_, rfl⟩; have hNR := hide hNR0; have hRB : B + 1 + 1 + 1 ≤ NR := hNR0 ▸ hM.base; (have hgl : ga < NR := hNR0 ▸ hgr.lt); (have hil : ∀ g, v1.ownBlock = some g → g < NR := fun g e => hNR0 ▸ (hI.row.lt g e).2); (have hils : ∀ x ∈ [(woQ k, qv)], ∀ g, x.2.ownBlock = some g → g < NR := fun x hx g e => hNR0 ▸ ((hI.own x hx).lt g e).2); have hnr : ¬ O2 NR := (fun e => absurd (hM.lt _ e) (by omega)); clear hNR0 hK hga) | ((with_reducible refine al_bk NR ?_ ?_); exact hNR.out; intro W hr hb' hz2; have hbc : Below W2.heap.size W2 W := (by rw [hNR.out]; exact hb'); replace hb := hb.trans (hb'.mono (by omega)); replace hM := hM.bl hbc; replace hA := hA.bl hbc; replace hf := hf.bl hbc; replace hI := hI.bl hbc; replace hgr := hgr.bl hbc; replace hDv := hDv.keep (O' := O2) (fun g cs hg hn => ⟨hbc.block g hg.lt, hn⟩); clear hb' hbc hz2 hNR) | ((with_reducible refine st_bk NR _ _ (woS k) v1 hv1o hr ?_ ?_ ?_); exact rfl; exact rfl; intro W hnew hoo; replace hM := hM.only hoo hnr; replace hA := hA.onlyR hoo (by omega); replace hb := hoo.bel _ _ (by omega) hb; replace hf := hf.only hoo (by omega); replace hI := hI.only hoo (fun e => absurd (hil _ e) (by omega)) (fun x hx e => absurd (hils x hx _ e) (by omega)); replace hgr := hgr.only hoo (by omega); replace hDv := hDv.keep (O' := O2) (fun g cs hg hn => ⟨hoo.row g (fun e => absurd (row_ty (e ▸ hg) hr) (by decide)), hn⟩); replace hr := hnew; clear hnew hoo))
        · skip
          have hcA := HAc.out _ _ _ _ hDv
          have hcF := HFc.out _ _ hf HFE.out
          have hcA2 := HAc.out _ _ _ _ (hDv.keep (W := World.drew _) (O' := O2) (fun g cs hg hn => ⟨rfl, hn⟩))
          have hcF2 := HFc.out _ _ hf.dr HFE.out
          (obtain ⟨va1, vc1, rfl⟩ := in_one hI)
          refine wp_region_held_drew (S := (fun V => RowAt V ga cur 81 ∧ (convert 37 9 dv).run Tryz.prog V = .ok (.string tx) V ∧ (convert 37 9 (.slice (some ⟨B, 0, none⟩) 512 512)).run Tryz.prog V = .ok (.string tx) V)) (by kernel_rfl) ?_ (fun hHeld => ?_)
          · exact ⟨hgr.dr, hcA2, hcF2⟩
          refine tkO 0 (.slice (some ⟨ga, 0, none⟩) 1 ca) (by simp only [gT, gZ]; rfl) (puO (by (intro w hSw; (try dsimp only at hSw); go_simp))) ?_
          simp only [Act.put, pA, pZ, pS]
          refine tkO 1 (.int .i64 1) (by simp only [gT, gZ, gS]; rfl) (puO (by (intro w hSw; (try dsimp only at hSw); go_simp))) ?_
          simp only [Act.put, pA, pZ, pS]
          refine tkO 2 (.bool false) (by simp only [gT, gZ, gS]; rfl) (puO (by (intro w hSw; (try dsimp only at hSw); go_simp))) ?_
          simp only [Act.put, pA, pZ, pS]
          refine tkO 3 (.bool false) (by simp only [gT, gZ, gS]; rfl) (puO (by (intro w hSw; (try dsimp only at hSw); go_simp))) ?_
          simp only [Act.put, pA, pZ, pS]
          refine tkO 4 (.slice (some ⟨ga, 0, none⟩) 1 ca) (by simp only [gT, gZ, gS]; rfl) (puO (by (intro w hSw; (try dsimp only at hSw); go_simp))) ?_
          simp only [Act.put, pA, pZ, pS]
          refine tkO 5 (.pointer (some ⟨ga, 0, none⟩)) (by simp only [gT, gZ, gS]; rfl) (puO (by (intro w hSw; (try dsimp only at hSw); go_simp))) ?_
          simp only [Act.put, pA, pZ, pS]
          refine tkO 6 (.pointer (some ⟨ga, 2, none⟩)) (by simp only [gT, gZ, gS]; rfl) (puO (by (intro w hSw; (try dsimp only at hSw); go_simp))) ?_
          simp only [Act.put, pA, pZ, pS]
          refine tkO 7 (.int .u32 (k : Nat)) (by simp only [gT, gZ, gS]; rfl) (y_cellg ga 2 _ (fun V hV => (hV.1.cell 2).trans k2) _ Tryz.underlying22 rfl rfl (by rfl)) ?_
          simp only [Act.put, pA, pZ, pS]
          refine tkO 8 (.int .u32 (k : Nat)) (by simp only [gT, gZ, gS]; rfl) (puO (by (intro w hSw; (try dsimp only at hSw); go_simp))) ?_
          simp only [Act.put, pA, pZ, pS]
          refine tkO 9 (.bool false) (by simp only [gT, gZ, gS]; rfl) (puO (by (intro w hSw; (try dsimp only at hSw); go_simp))) ?_
          simp only [Act.put, pA, pZ, pS]
          refine tkO 10 (.bool false) (by simp only [gT, gZ, gS]; rfl) (puO (by (intro w hSw; (try dsimp only at hSw); go_simp))) ?_
          simp only [Act.put, pA, pZ, pS]
          refine tkO 11 (.bool false) (by simp only [gT, gZ, gS]; rfl) (puO (by (intro w hSw; (try dsimp only at hSw); go_simp))) ?_
          simp only [Act.put, pA, pZ, pS]
          refine tkO 12 (.slice (some ⟨ga, 0, none⟩) 1 ca) (by simp only [gT, gZ, gS]; rfl) (puO (by (intro w hSw; (try dsimp only at hSw); go_simp))) ?_
          simp only [Act.put, pA, pZ, pS]
          refine tkO 13 (.pointer (some ⟨ga, 0, none⟩)) (by simp only [gT, gZ, gS]; rfl) (puO (by (intro w hSw; (try dsimp only at hSw); go_simp))) ?_
          simp only [Act.put, pA, pZ, pS]
          refine tkO 14 (.pointer (some ⟨ga, 1, none⟩)) (by simp only [gT, gZ, gS]; rfl) (puO (by (intro w hSw; (try dsimp only at hSw); go_simp))) ?_
          simp only [Act.put, pA, pZ, pS]
          refine tkO 15 (.bool true) (by simp only [gT, gZ, gS]; rfl) (y_cellg ga 1 _ (fun V hV => (hV.1.cell 1).trans k1) _ Tryz.underlying4 rfl rfl (by rfl)) ?_
          simp only [Act.put, pA, pZ, pS]
          refine tkO 16 (.bool false) (by simp only [gT, gZ, gS]; rfl) (puO (by (intro w hSw; (try dsimp only at hSw); go_simp))) ?_
          simp only [Act.put, pA, pZ, pS]
          refine tkO 17 (.bool false) (by simp only [gT, gZ, gS]; rfl) (puO (by (intro w hSw; (try dsimp only at hSw); go_simp))) ?_
          simp only [Act.put, pA, pZ, pS]
          refine tkO 18 (.bool false) (by simp only [gT, gZ, gS]; rfl) (puO (by (intro w hSw; (try dsimp only at hSw); go_simp))) ?_
          simp only [Act.put, pA, pZ, pS]
          refine tkO 19 (.slice (some ⟨ga, 0, none⟩) 1 ca) (by simp only [gT, gZ, gS]; rfl) (puO (by (intro w hSw; (try dsimp only at hSw); go_simp))) ?_
          simp only [Act.put, pA, pZ, pS]
          refine tkO 20 (.pointer (some ⟨ga, 0, none⟩)) (by simp only [gT, gZ, gS]; rfl) (puO (by (intro w hSw; (try dsimp only at hSw); go_simp))) ?_
          simp only [Act.put, pA, pZ, pS]
          refine tkO 21 (.pointer (some ⟨ga, 4, none⟩)) (by simp only [gT, gZ, gS]; rfl) (puO (by (intro w hSw; (try dsimp only at hSw); go_simp))) ?_
          simp only [Act.put, pA, pZ, pS]
          refine tkO 22 dv (by simp only [gT, gZ, gS]; rfl) (y_cellg ga 4 _ (fun V hV => (hV.1.cell 4).trans k4) _ Tryz.underlying37 rfl rfl (by rfl)) ?_
          simp only [Act.put, pA, pZ, pS]
          refine tkO 23 (.string tx) (by simp only [gT, gZ, gS]; rfl) (y_conv dv (.string tx) (fun V hV => hV.2.1) rfl (by rfl)) ?_
          simp only [Act.put, pA, pZ, pS]
          refine tkO 24 (.slice (some ⟨B, 0, none⟩) 512 512) (by simp only [gT, gZ, gS]; rfl) (puO (by (intro w hSw; (try dsimp only at hSw); go_simp))) ?_
          simp only [Act.put, pA, pZ, pS]
          refine tkO 25 (.string tx) (by simp only [gT, gZ, gS]; rfl) (y_conv (.slice (some ⟨B, 0, none⟩) 512 512) (.string tx) (fun V hV => hV.2.2) rfl (by rfl)) ?_
          simp only [Act.put, pA, pZ, pS]
          refine tkO 26 (.bool false) (by simp only [gT, gZ, gS]; rfl) (puO (by (intro w hSw; (try dsimp only at hSw); go_simp))) ?_
          simp only [Act.put, pA, pZ, pS]
          refine tkO 27 (.bool false) (by simp only [gT, gZ, gS]; rfl) (puO (by (intro w hSw; (try dsimp only at hSw); go_simp))) ?_
          simp only [Act.put, pA, pZ, pS]
          refine wpAnyH_done (by kernel_rfl) ?_ _
          replace hM := hM.dr
          replace hA := hA.drR
          replace hb := hb.drew
          replace hI := hI.dr
          replace hgr := hgr.dr
          replace hr := hr.dr
          clear hHeld hDv hcA hcF hcA2 hcF2 hf hnf
          generalize World.drew _ = V0 at hM hA hb hI hgr hr ⊢
          go_simp
          go_wp2
          refine wp_region_held_drew (S := (fun V => RowAt V NR ((woS k).c (.slice va1 1 vc1)) 53 ∧ RowAt V ga cur 81)) (by kernel_rfl) ?_ (fun hHeld => ?_)
          · exact ⟨hr.dr, hgr.dr⟩
          replace hM := hM.dr
          replace hA := hA.drR
          replace hb := hb.drew
          replace hI := hI.dr
          have hNl : NR < (World.drew _).heap.size := hr.lt
          generalize World.drew _ = V at hHeld hM hA hb hI hNl ⊢
          clear hr hgr
          refine tkO 0 (.agg ((woS k).c (.slice va1 1 vc1))) (by simp only [gT, gZ]; rfl) (y_bk NR (woS k) (.slice va1 1 vc1) (fun V hV => hV.1) rfl rfl) ?_
          simp only [Act.put, pA, pZ, pS]
          refine tkO 1 (.pointer (some ⟨b, 0, none⟩)) (by simp only [gT, gZ, gS]; rfl) (puO (by (intro w hSw; (try dsimp only at hSw); go_simp))) ?_
          simp only [Act.put, pA, pZ, pS]
          refine tkO 2 (.slice (some ⟨ga, 0, none⟩) 1 ca) (by simp only [gT, gZ, gS]; rfl) (puO (by (intro w hSw; (try dsimp only at hSw); go_simp))) ?_
          simp only [Act.put, pA, pZ, pS]
          refine tkO 3 (.pointer (some ⟨ga, 0, none⟩)) (by simp only [gT, gZ, gS]; rfl) (puO (by (intro w hSw; (try dsimp only at hSw); go_simp))) ?_
          simp only [Act.put, pA, pZ, pS]
          refine tkO 4 (.pointer (some ⟨ga, 0, none⟩)) (by simp only [gT, gZ, gS]; rfl) (puO (by (intro w hSw; (try dsimp only at hSw); go_simp))) ?_
          simp only [Act.put, pA, pZ, pS]
          refine tkO 5 (.int .u32 0) (by simp only [gT, gZ, gS]; rfl) (y_cellg ga 0 _ (fun V hV => (hV.2.cell 0).trans k0) _ Tryz.underlying22 rfl rfl (by rfl)) ?_
          simp only [Act.put, pA, pZ, pS]
          refine wpAnyH_ready (rs := [6, 10]) (by kernel_rfl) (by simp) ?_
          refine AllReadyH.cons (o := ?oipu35) ?hipu35 (fun K hK => ?bpu35) (AllReadyH.cons (o := ?oipu36) ?hipu36 (fun K hK => ?bpu36) AllReadyH.nil)
          case hipu35 => (simp only [List.getElem?_toArray, List.getElem?_cons_zero, List.getElem?_cons_succ]; rfl)
          case hipu36 => (simp only [List.getElem?_toArray, List.getElem?_cons_zero, List.getElem?_cons_succ]; rfl)
          case bpu35 =>
            rw [if_pos (by rfl)]
            go_simp
            (with_reducible refine (HFi.out _ _ _ _ _ _ hM hA hI).mono ?_)
            rintro e V4 ⟨v2, O3, rfl, hM3, hW3, hI2⟩
            have hH2 := hide (And.intro (hW3.row hHeld.1 hnr) (hW3.row hHeld.2 hgo))
            (have hv2o := own_one hI2.row)
            replace hb := hb.trans (hW3.below.mono (by omega))
            replace hA := hA.wentR hG hW3
            replace hNl := Nat.lt_of_lt_of_le hNl hW3.size
            (have hBl : B + 1 + 1 + 1 ≤ V4.heap.size := by omega)
            (obtain ⟨va2, vc2, rfl⟩ := in_none hI2)
            clear hM hI hW3 hHeld hI2
            go_simp
            refine hK.out _ _ ?_ (fun hHeld => ?_)
            · exact hH2.out
            clear hK K
            clear hH2
            refine tkO 7 (.tuple #[.agg (s3.c (.slice va2 0 vc2)), .nilIface]) (by simp only [gT, gZ, gS]; rfl) (puO (by (intro w hSw; (try dsimp only at hSw); go_simp))) ?_
            simp only [Act.put, pA, pZ, pS]
            refine tkO 8 (.agg (s3.c (.slice va2 0 vc2))) (by simp only [gT, gZ, gS]; rfl) (puO (by (intro w hSw; (try dsimp only at hSw); go_simp))) ?_
            simp only [Act.put, pA, pZ, pS]
            refine tkO 9 (.nilIface) (by simp only [gT, gZ, gS]; rfl) (puO (by (intro w hSw; (try dsimp only at hSw); go_simp))) ?_
            simp only [Act.put, pA, pZ, pS]
            refine skO 10 (by simp only [gT, gZ, gS]; rfl) (fun K hK => ?_)
            rw [if_pos (by rfl)]
            (obtain ⟨NT, hNT0⟩ : ∃ n, V4.heap.size = n := ⟨_, rfl⟩)
            (with_reducible refine s_alc NT ?_ (zeroBk.c nilS) zero_bk ?_)
            · exact hNT0
            intro V3 ht hbc hz
            rw [← hNT0] at hbc
            (have hNRT : NR < NT := hNT0 ▸ hNl)
            (have hgT : ga < NT := hNT0 ▸ hHeld.2.lt)
            (have hnt : ¬ O3 NT := fun e => absurd (hM3.lt _ e) (by omega))
            clear hz hNT0
            have hH2 := hide (And.intro (hHeld.1.bl hbc) (hHeld.2.bl hbc))
            replace hb := hb.trans (hbc.mono (by omega))
            replace hM3 := hM3.bl hbc
            replace hA := hA.bl hbc
            replace hNl := Nat.lt_of_lt_of_le hNl hbc.size
            clear hHeld hbc
            refine hK.out _ _ ?_ (fun hHeld => ?_)
            · exact hH2.out
            clear hK K
            clear hH2
            refine skO 11 (by simp only [gT, gZ, gS]; rfl) (fun K hK => ?_)
            rw [if_pos (by rfl)]
            (with_reducible refine s_bk NT _ _ s3 (.slice va2 0 vc2) hv2o ht ?_ ?_ ?_)
            · exact rfl
            · exact rfl
            intro V5 hnew hoo
            have hH2 := hide (And.intro (hHeld.1.only hoo (by omega)) (hHeld.2.only hoo (by omega)))
            replace hM3 := hM3.only hoo hnt
            replace hA := hA.onlyR hoo (by omega)
            replace hb := hoo.bel _ _ (by omega) hb
            clear ht
            (have ht := hnew)
            clear hHeld hoo hnew
            refine hK.out _ _ ?_ (fun hHeld => ?_)
            · exact hH2.out
            clear hK K
            clear hH2
            refine tkO 12 (.nilIface) (by simp only [gT, gZ, gS]; rfl) (puO (by (intro w hSw; (try dsimp only at hSw); go_simp))) ?_
            simp only [Act.put, pA, pZ, pS]
            refine wpAnyH_done (by kernel_rfl) ?_ _
            go_simp
            go_wp2_with (first | (go_at_call 24; (with_reducible refine (HLd.out _ _ _ hM3).mono ?_); rintro e W6 ⟨rfl, O6, hM6, hW6⟩; replace hb := hb.trans (hW6.below.mono (by omega)); (replace hA := hA.wentR hG hW6); (replace ht := hW6.row ht hnt); clear hW6 hM3) | ((with_reducible refine ld_bin NT s3 _ _ ht ?_ ?_ ?_); exact rfl; exact rfl) | (go_at_call 10; (with_reducible refine (HSu.out _ hA).mono ?_); rintro e W7 ⟨rfl, hbc⟩; replace hb := hb.trans (hbc.mono (by have := hM6.base; omega)); clear hbc))
            go_ret
            exact ⟨rfl, hb⟩
          case bpu36 =>
            rw [if_pos (by rfl)]
            (obtain ⟨NT, hNT0⟩ : ∃ n, V.heap.size = n := ⟨_, rfl⟩)
            (with_reducible refine s_alc NT ?_ (zeroBk.c nilS) zero_bk ?_)
            · exact hNT0
            intro V3 ht hbc hz
            rw [← hNT0] at hbc
            (have hNRT : NR < NT := hNT0 ▸ hNl)
            (have hgT : ga < NT := hNT0 ▸ hHeld.2.lt)
            (have hnt : ¬ O2 NT := fun e => absurd (hM.lt _ e) (by omega))
            clear hz hNT0
            have hH2 := hide (And.intro (hHeld.1.bl hbc) (hHeld.2.bl hbc))
            replace hA := hA.bl hbc
            replace hb := hb.trans (hbc.mono (by have := hM.base; omega))
            replace hM := hM.bl hbc
            replace hI := hI.bl hbc
            replace hNl := Nat.lt_of_lt_of_le hNl hbc.size
            clear hHeld hbc
            refine hK.out _ _ ?_ (fun hHeld => ?_)
            · exact hH2.out
            clear hK K
            clear hH2
            refine skO 6 (by simp only [gT, gZ, gS]; rfl) (fun K hK => ?_)
            rw [if_pos (by rfl)]
            go_simp
            (with_reducible refine (HFi.out _ _ _ _ _ _ hM hA hI).mono ?_)
            rintro e V4 ⟨v2, O3, rfl, hM3, hW3, hI2⟩
            have hH2 := hide (And.intro (hW3.row hHeld.1 hnr) (hW3.row hHeld.2 hgo))
            (have hv2o := own_one hI2.row)
            (have hnt3 := hW3.no ht.lt hnt)
            replace ht := hW3.row ht hnt
            clear hnt
            (have hnt := hnt3)
            clear hnt3
            replace hb := hb.trans (hW3.below.mono (by omega))
            replace hA := hA.wentR hG hW3
            replace hNl := Nat.lt_of_lt_of_le hNl hW3.size
            (have hBl : B + 1 + 1 + 1 ≤ V4.heap.size := by omega)
            (obtain ⟨va2, vc2, rfl⟩ := in_none hI2)
            clear hM hI hW3 hHeld hI2
            go_simp
            refine hK.out _ _ ?_ (fun hHeld => ?_)
            · exact hH2.out
            clear hK K
            clear hH2
            refine tkO 7 (.tuple #[.agg (s3.c (.slice va2 0 vc2)), .nilIface]) (by simp only [gT, gZ, gS]; rfl) (puO (by (intro w hSw; (try dsimp only at hSw); go_simp))) ?_
            simp only [Act.put, pA, pZ, pS]
            refine tkO 8 (.agg (s3.c (.slice va2 0 vc2))) (by simp only [gT, gZ, gS]; rfl) (puO (by (intro w hSw; (try dsimp only at hSw); go_simp))) ?_
            simp only [Act.put, pA, pZ, pS]
            refine tkO 9 (.nilIface) (by simp only [gT, gZ, gS]; rfl) (puO (by (intro w hSw; (try dsimp only at hSw); go_simp))) ?_
            simp only [Act.put, pA, pZ, pS]
            refine skO 11 (by simp only [gT, gZ, gS]; rfl) (fun K hK => ?_)
            rw [if_pos (by rfl)]
            (with_reducible refine s_bk NT _ _ s3 (.slice va2 0 vc2) hv2o ht ?_ ?_ ?_)
            · exact rfl
            · exact rfl
            intro V5 hnew hoo
            have hH2 := hide (And.intro (hHeld.1.only hoo (by omega)) (hHeld.2.only hoo (by omega)))
            replace hM3 := hM3.only hoo hnt
            replace hA := hA.onlyR hoo (by omega)
            replace hb := hoo.bel _ _ (by omega) hb
            clear ht
            (have ht := hnew)
            clear hHeld hoo hnew
            refine hK.out _ _ ?_ (fun hHeld => ?_)
            · exact hH2.out
            clear hK K
            clear hH2
            refine tkO 12 (.nilIface) (by simp only [gT, gZ, gS]; rfl) (puO (by (intro w hSw; (try dsimp only at hSw); go_simp))) ?_
            simp only [Act.put, pA, pZ, pS]
            refine wpAnyH_done (by kernel_rfl) ?_ _
            go_simp
            go_wp2_with (first | (go_at_call 24; (with_reducible refine (HLd.out _ _ _ hM3).mono ?_); rintro e W6 ⟨rfl, O6, hM6, hW6⟩; replace hb := hb.trans (hW6.below.mono (by omega)); (replace hA := hA.wentR hG hW6); (replace ht := hW6.row ht hnt); clear hW6 hM3) | ((with_reducible refine ld_bin NT s3 _ _ ht ?_ ?_ ?_); exact rfl; exact rfl) | (go_at_call 10; (with_reducible refine (HSu.out _ hA).mono ?_); rintro e W7 ⟨rfl, hbc⟩; replace hb := hb.trans (hbc.mono (by have := hM6.base; omega)); clear hbc))
            go_ret
            exact ⟨rfl, hb⟩
        · skip
          have hcA := HAc.out _ _ _ _ hDv
          have hcF := HFc.out _ _ hf HFE.out
          have hcA2 := HAc.out _ _ _ _ (hDv.keep (W := World.drew _) (O' := O2) (fun g cs hg hn => ⟨rfl, hn⟩))
          have hcF2 := HFc.out _ _ hf.dr HFE.out
          (obtain ⟨va1, vc1, rfl⟩ := in_one hI)
          refine wp_region_held_drew (S := (fun V => RowAt V ga cur 81 ∧ (convert 37 9 dv).run Tryz.prog V = .ok (.string tx) V ∧ (convert 37 9 (.slice (some ⟨B, 0, none⟩) 512 512)).run Tryz.prog V = .ok (.string tx) V)) (by kernel_rfl) ?_ (fun hHeld => ?_)
          · exact ⟨hgr.dr, hcA2, hcF2⟩
          refine tkO 0 (.slice (some ⟨ga, 0, none⟩) 1 ca) (by simp only [gT, gZ]; rfl) (puO (by (intro w hSw; (try dsimp only at hSw); go_simp))) ?_
          simp only [Act.put, pA, pZ, pS]
          refine tkO 1 (.int .i64 1) (by simp only [gT, gZ, gS]; rfl) (puO (by (intro w hSw; (try dsimp only at hSw); go_simp))) ?_
          simp only [Act.put, pA, pZ, pS]
          refine tkO 2 (.bool false) (by simp only [gT, gZ, gS]; rfl) (puO (by (intro w hSw; (try dsimp only at hSw); go_simp))) ?_
          simp only [Act.put, pA, pZ, pS]
          refine tkO 3 (.bool false) (by simp only [gT, gZ, gS]; rfl) (puO (by (intro w hSw; (try dsimp only at hSw); go_simp))) ?_
          simp only [Act.put, pA, pZ, pS]
          refine tkO 4 (.slice (some ⟨ga, 0, none⟩) 1 ca) (by simp only [gT, gZ, gS]; rfl) (puO (by (intro w hSw; (try dsimp only at hSw); go_simp))) ?_
          simp only [Act.put, pA, pZ, pS]
          refine tkO 5 (.pointer (some ⟨ga, 0, none⟩)) (by simp only [gT, gZ, gS]; rfl) (puO (by (intro w hSw; (try dsimp only at hSw); go_simp))) ?_
          simp only [Act.put, pA, pZ, pS]
          refine tkO 6 (.pointer (some ⟨ga, 2, none⟩)) (by simp only [gT, gZ, gS]; rfl) (puO (by (intro w hSw; (try dsimp only at hSw); go_simp))) ?_
          simp only [Act.put, pA, pZ, pS]
          refine tkO 7 (.int .u32 (k : Nat)) (by simp only [gT, gZ, gS]; rfl) (y_cellg ga 2 _ (fun V hV => (hV.1.cell 2).trans k2) _ Tryz.underlying22 rfl rfl (by rfl)) ?_
          simp only [Act.put, pA, pZ, pS]
          refine tkO 8 (.int .u32 (k : Nat)) (by simp only [gT, gZ, gS]; rfl) (puO (by (intro w hSw; (try dsimp only at hSw); go_simp))) ?_
          simp only [Act.put, pA, pZ, pS]
          refine tkO 9 (.bool false) (by simp only [gT, gZ, gS]; rfl) (puO (by (intro w hSw; (try dsimp only at hSw); go_simp))) ?_
          simp only [Act.put, pA, pZ, pS]
          refine tkO 10 (.bool false) (by simp only [gT, gZ, gS]; rfl) (puO (by (intro w hSw; (try dsimp only at hSw); go_simp))) ?_
          simp only [Act.put, pA, pZ, pS]
          refine tkO 11 (.bool false) (by simp only [gT, gZ, gS]; rfl) (puO (by (intro w hSw; (try dsimp only at hSw); go_simp))) ?_
          simp only [Act.put, pA, pZ, pS]
          refine tkO 12 (.slice (some ⟨ga, 0, none⟩) 1 ca) (by simp only [gT, gZ, gS]; rfl) (puO (by (intro w hSw; (try dsimp only at hSw); go_simp))) ?_
          simp only [Act.put, pA, pZ, pS]
          refine tkO 13 (.pointer (some ⟨ga, 0, none⟩)) (by simp only [gT, gZ, gS]; rfl) (puO (by (intro w hSw; (try dsimp only at hSw); go_simp))) ?_
          simp only [Act.put, pA, pZ, pS]
          refine tkO 14 (.pointer (some ⟨ga, 1, none⟩)) (by simp only [gT, gZ, gS]; rfl) (puO (by (intro w hSw; (try dsimp only at hSw); go_simp))) ?_
          simp only [Act.put, pA, pZ, pS]
          refine tkO 15 (.bool true) (by simp only [gT, gZ, gS]; rfl) (y_cellg ga 1 _ (fun V hV => (hV.1.cell 1).trans k1) _ Tryz.underlying4 rfl rfl (by rfl)) ?_
          simp only [Act.put, pA, pZ, pS]
          refine tkO 16 (.bool false) (by simp only [gT, gZ, gS]; rfl) (puO (by (intro w hSw; (try dsimp only at hSw); go_simp))) ?_
          simp only [Act.put, pA, pZ, pS]
          refine tkO 17 (.bool false) (by simp only [gT, gZ, gS]; rfl) (puO (by (intro w hSw; (try dsimp only at hSw); go_simp))) ?_
          simp only [Act.put, pA, pZ, pS]
          refine tkO 18 (.bool false) (by simp only [gT, gZ, gS]; rfl) (puO (by (intro w hSw; (try dsimp only at hSw); go_simp))) ?_
          simp only [Act.put, pA, pZ, pS]
          refine tkO 19 (.slice (some ⟨ga, 0, none⟩) 1 ca) (by simp only [gT, gZ, gS]; rfl) (puO (by (intro w hSw; (try dsimp only at hSw); go_simp))) ?_
          simp only [Act.put, pA, pZ, pS]
          refine tkO 20 (.pointer (some ⟨ga, 0, none⟩)) (by simp only [gT, gZ, gS]; rfl) (puO (by (intro w hSw; (try dsimp only at hSw); go_simp))) ?_
          simp only [Act.put, pA, pZ, pS]
          refine tkO 21 (.pointer (some ⟨ga, 4, none⟩)) (by simp only [gT, gZ, gS]; rfl) (puO (by (intro w hSw; (try dsimp only at hSw); go_simp))) ?_
          simp only [Act.put, pA, pZ, pS]
          refine tkO 22 dv (by simp only [gT, gZ, gS]; rfl) (y_cellg ga 4 _ (fun V hV => (hV.1.cell 4).trans k4) _ Tryz.underlying37 rfl rfl (by rfl)) ?_
          simp only [Act.put, pA, pZ, pS]
          refine tkO 23 (.string tx) (by simp only [gT, gZ, gS]; rfl) (y_conv dv (.string tx) (fun V hV => hV.2.1) rfl (by rfl)) ?_
          simp only [Act.put, pA, pZ, pS]
          refine tkO 24 (.slice (some ⟨B, 0, none⟩) 512 512) (by simp only [gT, gZ, gS]; rfl) (puO (by (intro w hSw; (try dsimp only at hSw); go_simp))) ?_
          simp only [Act.put, pA, pZ, pS]
          refine tkO 25 (.string tx) (by simp only [gT, gZ, gS]; rfl) (y_conv (.slice (some ⟨B, 0, none⟩) 512 512) (.string tx) (fun V hV => hV.2.2) rfl (by rfl)) ?_
          simp only [Act.put, pA, pZ, pS]
          refine tkO 26 (.bool false) (by simp only [gT, gZ, gS]; rfl) (puO (by (intro w hSw; (try dsimp only at hSw); go_simp))) ?_
          simp only [Act.put, pA, pZ, pS]
          refine tkO 27 (.bool false) (by simp only [gT, gZ, gS]; rfl) (puO (by (intro w hSw; (try dsimp only at hSw); go_simp))) ?_
          simp only [Act.put, pA, pZ, pS]
          refine wpAnyH_done (by kernel_rfl) ?_ _
          replace hM := hM.dr
          replace hA := hA.drR
          replace hb := hb.drew
          replace hI := hI.dr
          replace hgr := hgr.dr
          replace hr := hr.dr
          clear hHeld hDv hcA hcF hcA2 hcF2 hf hnf
          generalize World.drew _ = V0 at hM hA hb hI hgr hr ⊢
          go_simp
          go_wp2
          refine wp_region_held_drew (S := (fun V => RowAt V NR ((woS k).c (.slice va1 1 vc1)) 53 ∧ RowAt V ga cur 81)) (by kernel_rfl) ?_ (fun hHeld => ?_)
          · exact ⟨hr.dr, hgr.dr⟩
          replace hM := hM.dr
          replace hA := hA.drR
          replace hb := hb.drew
          replace hI := hI.dr
          have hNl : NR < (World.drew _).heap.size := hr.lt
          generalize World.drew _ = V at hHeld hM hA hb hI hNl ⊢
          clear hr hgr
          refine tkO 0 (.agg ((woS k).c (.slice va1 1 vc1))) (by simp only [gT, gZ]; rfl) (y_bk NR (woS k) (.slice va1 1 vc1) (fun V hV => hV.1) rfl rfl) ?_
          simp only [Act.put, pA, pZ, pS]
          refine tkO 1 (.pointer (some ⟨b, 0, none⟩)) (by simp only [gT, gZ, gS]; rfl) (puO (by (intro w hSw; (try dsimp only at hSw); go_simp))) ?_
          simp only [Act.put, pA, pZ, pS]
          refine tkO 2 (.slice (some ⟨ga, 0, none⟩) 1 ca) (by simp only [gT, gZ, gS]; rfl) (puO (by (intro w hSw; (try dsimp only at hSw); go_simp))) ?_
          simp only [Act.put, pA, pZ, pS]
          refine tkO 3 (.pointer (some ⟨ga, 0, none⟩)) (by simp only [gT, gZ, gS]; rfl) (puO (by (intro w hSw; (try dsimp only at hSw); go_simp))) ?_
          simp only [Act.put, pA, pZ, pS]
          refine tkO 4 (.pointer (some ⟨ga, 0, none⟩)) (by simp only [gT, gZ, gS]; rfl) (puO (by (intro w hSw; (try dsimp only at hSw); go_simp))) ?_
          simp only [Act.put, pA, pZ, pS]
          refine tkO 5 (.int .u32 0) (by simp only [gT, gZ, gS]; rfl) (y_cellg ga 0 _ (fun V hV => (hV.2.cell 0).trans k0) _ Tryz.underlying22 rfl rfl (by rfl)) ?_
          simp only [Act.put, pA, pZ, pS]
          refine wpAnyH_ready (rs := [6, 10]) (by kernel_rfl) (by simp) ?_
          refine AllReadyH.cons (o := ?oipv35) ?hipv35 (fun K hK => ?bpv35) (AllReadyH.cons (o := ?oipv36) ?hipv36 (fun K hK => ?bpv36) AllReadyH.nil)
          case hipv35 => (simp only [List.getElem?_toArray, List.getElem?_cons_zero, List.getElem?_cons_succ]; rfl)
          case hipv36 => (simp only [List.getElem?_toArray, List.getElem?_cons_zero, List.getElem?_cons_succ]; rfl)
          case bpv35 =>
            rw [if_pos (by rfl)]
            go_simp
            (with_reducible refine (HFi.out _ _ _ _ _ _ hM hA hI).mono ?_)
            rintro e V4 ⟨v2, O3, rfl, hM3, hW3, hI2⟩
            have hH2 := hide (And.intro (hW3.row hHeld.1 hnr) (hW3.row hHeld.2 hgo))
            (have hv2o := own_one hI2.row)
            replace hb := hb.trans (hW3.below.mono (by omega))
            replace hA := hA.wentR hG hW3
            replace hNl := Nat.lt_of_lt_of_le hNl hW3.size
            (have hBl : B + 1 + 1 + 1 ≤ V4.heap.size := by omega)
            (obtain ⟨va2, vc2, rfl⟩ := in_none hI2)
            clear hM hI hW3 hHeld hI2
            go_simp
            refine hK.out _ _ ?_ (fun hHeld => ?_)
            · exact hH2.out
            clear hK K
            clear hH2
            refine tkO 7 (.tuple #[.agg (s3.c (.slice va2 0 vc2)), .nilIface]) (by simp only [gT, gZ, gS]; rfl) (puO (by (intro w hSw; (try dsimp only at hSw); go_simp))) ?_
            simp only [Act.put, pA, pZ, pS]
            refine tkO 8 (.agg (s3.c (.slice va2 0 vc2))) (by simp only [gT, gZ, gS]; rfl) (puO (by (intro w hSw; (try dsimp only at hSw); go_simp))) ?_
            simp only [Act.put, pA, pZ, pS]
            refine tkO 9 (.nilIface) (by simp only [gT, gZ, gS]; rfl) (puO (by (intro w hSw; (try dsimp only at hSw); go_simp))) ?_
            simp only [Act.put, pA, pZ, pS]
            refine skO 10 (by simp only [gT, gZ, gS]; rfl) (fun K hK => ?_)
            rw [if_pos (by rfl)]
            (obtain ⟨NT, hNT0⟩ : ∃ n, V4.heap.size = n := ⟨_, rfl⟩)
            (with_reducible refine s_alc NT ?_ (zeroBk.c nilS) zero_bk ?_)
            · exact hNT0
            intro V3 ht hbc hz
            rw [← hNT0] at hbc
            (have hNRT : NR < NT := hNT0 ▸ hNl)
            (have hgT : ga < NT := hNT0 ▸ hHeld.2.lt)
            (have hnt : ¬ O3 NT := fun e => absurd (hM3.lt _ e) (by omega))
            clear hz hNT0
            have hH2 := hide (And.intro (hHeld.1.bl hbc) (hHeld.2.bl hbc))
            replace hb := hb.trans (hbc.mono (by omega))
            replace hM3 := hM3.bl hbc
            replace hA := hA.bl hbc
            replace hNl := Nat.lt_of_lt_of_le hNl hbc.size
            clear hHeld hbc
            refine hK.out _ _ ?_ (fun hHeld => ?_)
            · exact hH2.out
            clear hK K
            clear hH2
            refine skO 11 (by simp only [gT, gZ, gS]; rfl) (fun K hK => ?_)
            rw [if_pos (by rfl)]
            (with_reducible refine s_bk NT _ _ s3 (.slice va2 0 vc2) hv2o ht ?_ ?_ ?_)
            · exact rfl
            · exact rfl
            intro V5 hnew hoo
            have hH2 := hide (And.intro (hHeld.1.only hoo (by omega)) (hHeld.2.only hoo (by omega)))
            replace hM3 := hM3.only hoo hnt
            replace hA := hA.onlyR hoo (by omega)
            replace hb := hoo.bel _ _ (by omega) hb
            clear ht
            (have ht := hnew)
            clear hHeld hoo hnew
            refine hK.out _ _ ?_ (fun hHeld => ?_)
            · exact hH2.out
            clear hK K
            clear hH2
            refine tkO 12 (.nilIface) (by simp only [gT, gZ, gS]; rfl) (puO (by (intro w hSw; (try dsimp only at hSw); go_simp))) ?_
            simp only [Act.put, pA, pZ, pS]
            refine wpAnyH_done (by kernel_rfl) ?_ _
            go_simp
            go_wp2_with (first | (go_at_call 24; (with_reducible refine (HLd.out _ _ _ hM3).mono ?_); rintro e W6 ⟨rfl, O6, hM6, hW6⟩; replace hb := hb.trans (hW6.below.mono (by omega)); (replace hA := hA.wentR hG hW6); (replace ht := hW6.row ht hnt); clear hW6 hM3) | ((with_reducible refine ld_bin NT s3 _ _ ht ?_ ?_ ?_); exact rfl; exact rfl) | (go_at_call 10; (with_reducible refine (HSu.out _ hA).mono ?_); rintro e W7 ⟨rfl, hbc⟩; replace hb := hb.trans (hbc.mono (by have := hM6.base; omega)); clear hbc))
            go_ret
            exact ⟨rfl, hb⟩
          case bpv36 =>
            rw [if_pos (by rfl)]
            (obtain ⟨NT, hNT0⟩ : ∃ n, V.heap.size = n := ⟨_, rfl⟩)
            (with_reducible refine s_alc NT ?_ (zeroBk.c nilS) zero_bk ?_)
            · exact hNT0
            intro V3 ht hbc hz
            rw [← hNT0] at hbc
            (have hNRT : NR < NT := hNT0 ▸ hNl)
            (have hgT : ga < NT := hNT0 ▸ hHeld.2.lt)
            (have hnt : ¬ O2 NT := fun e => absurd (hM.lt _ e) (by omega))
            clear hz hNT0
            have hH2 := hide (And.intro (hHeld.1.bl hbc) (hHeld.2.bl hbc))
            replace hA := hA.bl hbc
            replace hb := hb.trans (hbc.mono (by have := hM.base; omega))
            replace hM := hM.bl hbc
            replace hI := hI.bl hbc
            replace hNl := Nat.lt_of_lt_of_le hNl hbc.size
            clear hHeld hbc
            refine hK.out _ _ ?_ (fun hHeld => ?_)
            · exact hH2.out
            clear hK K
            clear hH2
            refine skO 6 (by simp only [gT, gZ, gS]; rfl) (fun K hK => ?_)
            rw [if_pos (by rfl)]
            go_simp
            (with_reducible refine (HFi.out _ _ _ _ _ _ hM hA hI).mono ?_)
            rintro e V4 ⟨v2, O3, rfl, hM3, hW3, hI2⟩
            have hH2 := hide (And.intro (hW3.row hHeld.1 hnr) (hW3.row hHeld.2 hgo))
            (have hv2o := own_one hI2.row)
            (have hnt3 := hW3.no ht.lt hnt)
            replace ht := hW3.row ht hnt
            clear hnt
            (have hnt := hnt3)
            clear hnt3
            replace hb := hb.trans (hW3.below.mono (by omega))
            replace hA := hA.wentR hG hW3
            replace hNl := Nat.lt_of_lt_of_le hNl hW3.size
            (have hBl : B + 1 + 1 + 1 ≤ V4.heap.size := by omega)
            (obtain ⟨va2, vc2, rfl⟩ := in_none hI2)
            clear hM hI hW3 hHeld hI2
            go_simp
            refine hK.out _ _ ?_ (fun hHeld => ?_)
            · exact hH2.out
            clear hK K
            clear hH2
            refine tkO 7 (.tuple #[.agg (s3.c (.slice va2 0 vc2)), .nilIface]) (by simp only [gT, gZ, gS]; rfl) (puO (by (intro w hSw; (try dsimp only at hSw); go_simp))) ?_
            simp only [Act.put, pA, pZ, pS]
            refine tkO 8 (.agg (s3.c (.slice va2 0 vc2))) (by simp only [gT, gZ, gS]; rfl) (puO (by (intro w hSw; (try dsimp only at hSw); go_simp))) ?_
            simp only [Act.put, pA, pZ, pS]
            refine tkO 9 (.nilIface) (by simp only [gT, gZ, gS]; rfl) (puO (by (intro w hSw; (try dsimp only at hSw); go_simp))) ?_
            simp only [Act.put, pA, pZ, pS]
            refine skO 11 (by simp only [gT, gZ, gS]; rfl) (fun K hK => ?_)
            rw [if_pos (by rfl)]
            (with_reducible refine s_bk NT _ _ s3 (.slice va2 0 vc2) hv2o ht ?_ ?_ ?_)
            · exact rfl
            · exact rfl
            intro V5 hnew hoo
            have hH2 := hide (And.intro (hHeld.1.only hoo (by omega)) (hHeld.2.only hoo (by omega)))
            replace hM3 := hM3.only hoo hnt
            replace hA := hA.onlyR hoo (by omega)
            replace hb := hoo.bel _ _ (by omega) hb
            clear ht
            (have ht := hnew)
            clear hHeld hoo hnew
            refine hK.out _ _ ?_ (fun hHeld => ?_)
            · exact hH2.out
            clear hK K
            clear hH2
            refine tkO 12 (.nilIface) (by simp only [gT, gZ, gS]; rfl) (puO (by (intro w hSw; (try dsimp only at hSw); go_simp))) ?_
            simp only [Act.put, pA, pZ, pS]
            refine wpAnyH_done (by kernel_rfl) ?_ _
            go_simp
            go_wp2_with (first | (go_at_call 24; (with_reducible refine (HLd.out _ _ _ hM3).mono ?_); rintro e W6 ⟨rfl, O6, hM6, hW6⟩; replace hb := hb.trans (hW6.below.mono (by omega)); (replace hA := hA.wentR hG hW6); (replace ht := hW6.row ht hnt); clear hW6 hM3) | ((with_reducible refine ld_bin NT s3 _ _ ht ?_ ?_ ?_); exact rfl; exact rfl) | (go_at_call 10; (with_reducible refine (HSu.out _ hA).mono ?_); rintro e W7 ⟨rfl, hbc⟩; replace hb := hb.trans (hbc.mono (by have := hM6.base; omega)); clear hbc))
            go_ret
            exact ⟨rfl, hb⟩
      · have l1 : (i : Int) < (bl.length : Int) := by omega
        have t2 : decide ((i : Int) < 512) = false := by simp; omega
        have t2n : decide (i < 512) = false := by simp; omega
        go_wp2_with (first | ((with_reducible refine bs_wr c k (B + 1) ?_ _ _ _ _ _ _ _ _ _ _ _ _ ?_ ?_ ?_ ?_ ?_ ?_ ?_ ?_ ?_ ?_ ?_ ?_ ?_); exact hz; exact rfl; (first | exact rfl | (simp; omega)); exact rfl; exact rfl; (first | exact rfl | (simp; omega)); exact rfl; exact rfl; exact rfl; exact rfl; exact rfl; exact rfl; exact rfl; intro W hq hb' hz'; have hbc := hz.symm ▸ hb'; replace hf := hf.bl hbc; replace hb := hb.trans (hb'.mono (by omega)); clear hb' hbc hz) | (go_at_call 8; (with_reducible refine (HBo.out _ hz'.out hq).mono ?_); rintro e W1 ⟨b, O, r, rfl, hM, hbc⟩; (have hbq := hbc); rw [← hz'.out] at hbq; replace hf := hf.bl hbq; replace hb := hb.trans (hbc.mono (by omega)); have hA := HA0.out.belR hG0 hb; (have hnf : ¬ O B := fun e => absurd (hM.low _ e) (by omega)); obtain ⟨NX, hNX0⟩ : ∃ n, W1.heap.size = n := ⟨_, rfl⟩; have hNX := hide hNX0; have hNB : B + 1 + 1 + 1 ≤ NX := hNX0 ▸ hM.base; have hnx : ¬ O NX := (fun e => absurd (hM.lt _ e) (by omega)); clear hNX0 hbc hbq hq hz') | ((with_reducible refine al_Rz NX ?_ ?_); exact hNX.out; intro W hx hb' hz2; have hbc : Below W1.heap.size W1 W := (by rw [hNX.out]; exact hb'); replace hb := hb.trans (hb'.mono (by omega)); replace hM := hM.bl hbc; replace hA := hA.bl hbc; replace hf := hf.bl hbc; clear hb' hbc hz2) | ((with_reducible refine st_R NX _ r 8192 2 hx ?_ ?_ ?_ ?_); exact rfl; exact rfl; exact rfl; intro W hnew hoo; replace hM := hM.only hoo hnx; replace hA := hA.onlyR hoo (by omega); replace hf := hf.only hoo (by omega); replace hb := hoo.bel _ _ (by omega) hb; clear hnew hoo hx hnx hNX) | (go_at_call 23; (with_reducible refine (HW1.out _ _ _ _ _ _ _ hM hf HFE.out hnf ?_ ?_).mono ?_); (first | exact rfl | omega | (simp; done)); (first | exact rfl | omega | (simp; done)); rintro e W2 ⟨rfl, O2, hM2, hW2⟩; (have hnn := hW2.no hf.lt hnf); replace hf := hW2.row hf hnf; replace hb := hb.trans (hW2.below.mono (by omega)); replace hA := hA.wentR hG hW2; clear hM hnf; have hM := hM2; have hnf := hnn; clear hM2 hW2 hnn) | (go_at_call 23; (with_reducible refine (HW2.out _ _ _ _ _ _ _ _ hM hf HFE.out hnf ?_ ?_ ?_).mono ?_); (first | exact .inl rfl | exact .inr (by omega)); (first | exact rfl | omega | (simp; done)); (first | exact rfl | omega | (simp; done)); rintro e W2 ⟨rfl, O2, hM2, hW2⟩; rw [HF2.out] at hM2; (have hnn := hW2.no hf.lt hnf); replace hf := hW2.row hf hnf; replace hb := hb.trans (hW2.below.mono (by omega)); replace hA := hA.wentR hG hW2; clear hM hnf; have hM := hM2; have hnf := hnn; clear hM2 hW2 hnn) | (go_at_call 20; (with_reducible refine (HLi.out _).mono ?_); rintro e W ⟨rfl, hbc⟩; replace hb := hb.trans (hbc.mono (by have := hM.base; omega)); replace hM := hM.bl hbc; replace hA := hA.bl hbc; replace hf := hf.bl hbc; clear hbc) | (go_at_call 12; (with_reducible refine (HPo.out _ _ _ hM hA).mono ?_); rintro e W2 ⟨v1, av, qv, dv, O2, rfl, hM2, hW2, hI, hK⟩; (have hnn := hW2.no hf.lt hnf); replace hf := hW2.row hf hnf; replace hb := hb.trans (hW2.below.mono (by omega)); replace hA := hA.wentR hG hW2; clear hM hnf; have hM := hM2; have hnf := hnn; clear hM2 hW2 hnn; (have hDv := hK.dat _ (List.mem_singleton.2 rfl)); (obtain ⟨ga, ca, cur, rfl, hga, hgo, hgr, k0, k1, k2, k3, k4⟩ := asks_one hK); (have hv1o := own_one hI.row); obtain ⟨NR, hNR0⟩ : ∃ n, W2.heap.size = n := ⟨_, rfl⟩; have hNR := hide hNR0; have hRB : B + 1 + 1 + 1 ≤ NR := hNR0 ▸ hM.base; (have hgl : ga < NR := hNR0 ▸ hgr.lt); (have hil : ∀ g, v1.ownBlock = some g → g < NR := fun g e => hNR0 ▸ (hI.row.lt g e).2); (have hils : ∀ x ∈ [(woQ k, qv)], ∀ g, x.2.ownBlock = some g → g < NR := fun x hx g e => hNR0 ▸ ((hI.own x hx).lt g e).2); have hnr : ¬ O2 NR := (fun e => absurd (hM.lt _ e) (by omega)); clear hNR0 hK hga) | ((with_reducible refine al_bk NR ?_ ?_); exact hNR.out; intro W hr hb' hz2; have hbc : Below W2.heap.size W2 W := (by rw [hNR.out]; exact hb'); replace hb := hb.trans (hb'.mono (by omega)); replace hM := hM.bl hbc; replace hA := hA.bl hbc; replace hf := hf.bl hbc; replace hI := hI.bl hbc; replace hgr := hgr.bl hbc; replace hDv := hDv.keep (O' := O2) (fun g cs hg hn => ⟨hbc.block g hg.lt, hn⟩); clear hb' hbc hz2 hNR) | ((with_reducible refine st_bk NR _ _ (woS k) v1 hv1o hr ?_ ?_ ?_); exact rfl; exact rfl; intro W hnew hoo; replace hM := hM.only hoo hnr; replace hA := hA.onlyR hoo (by omega); replace hb := hoo.bel _ _ (by omega) hb; replace hf := hf.only hoo (by omega); replace hI := hI.only hoo (fun e => absurd (hil _ e) (by omega)) (fun x hx e => absurd (hils x hx _ e) (by omega)); replace hgr := hgr.only hoo (by omega); replace hDv := hDv.keep (O' := O2) (fun g cs hg hn => ⟨hoo.row g (fun e => absurd (row_ty (e ▸ hg) hr) (by decide)), hn⟩); replace hr := hnew; clear hnew hoo))
        · skip
          have hcA := HAc.out _ _ _ _ hDv
          have hcF := HFc.out _ _ hf HFE.out
          have hcA2 := HAc.out _ _ _ _ (hDv.keep (W := World.drew _) (O' := O2) (fun g cs hg hn => ⟨rfl, hn⟩))
          have hcF2 := HFc.out _ _ hf.dr HFE.out
          (obtain ⟨va1, vc1, rfl⟩ := in_one hI)
          refine wp_region_held_drew (S := (fun V => RowAt V ga cur 81 ∧ (convert 37 9 dv).run Tryz.prog V = .ok (.string tx) V ∧ (convert 37 9 (.slice (some ⟨B, 0, none⟩) 512 512)).run Tryz.prog V = .ok (.string tx) V)) (by kernel_rfl) ?_ (fun hHeld => ?_)
          · exact ⟨hgr.dr, hcA2, hcF2⟩
          refine tkO 0 (.slice (some ⟨ga, 0, none⟩) 1 ca) (by simp only [gT, gZ]; rfl) (puO (by (intro w hSw; (try dsimp only at hSw); go_simp))) ?_
          simp only [Act.put, pA, pZ, pS]
          refine tkO 1 (.int .i64 1) (by simp only [gT, gZ, gS]; rfl) (puO (by (intro w hSw; (try dsimp only at hSw); go_simp))) ?_
          simp only [Act.put, pA, pZ, pS]
          refine tkO 2 (.bool false) (by simp only [gT, gZ, gS]; rfl) (puO (by (intro w hSw; (try dsimp only at hSw); go_simp))) ?_
          simp only [Act.put, pA, pZ, pS]
          refine tkO 3 (.bool false) (by simp only [gT, gZ, gS]; rfl) (puO (by (intro w hSw; (try dsimp only at hSw); go_simp))) ?_
          simp only [Act.put, pA, pZ, pS]
          refine tkO 4 (.slice (some ⟨ga, 0, none⟩) 1 ca) (by simp only [gT, gZ, gS]; rfl) (puO (by (intro w hSw; (try dsimp only at hSw); go_simp))) ?_
          simp only [Act.put, pA, pZ, pS]
          refine tkO 5 (.pointer (some ⟨ga, 0, none⟩)) (by simp only [gT, gZ, gS]; rfl) (puO (by (intro w hSw; (try dsimp only at hSw); go_simp))) ?_
          simp only [Act.put, pA, pZ, pS]
          refine tkO 6 (.pointer (some ⟨ga, 2, none⟩)) (by simp only [gT, gZ, gS]; rfl) (puO (by (intro w hSw; (try dsimp only at hSw); go_simp))) ?_
          simp only [Act.put, pA, pZ, pS]
          refine tkO 7 (.int .u32 (k : Nat)) (by simp only [gT, gZ, gS]; rfl) (y_cellg ga 2 _ (fun V hV => (hV.1.cell 2).trans k2) _ Tryz.underlying22 rfl rfl (by rfl)) ?_
          simp only [Act.put, pA, pZ, pS]
          refine tkO 8 (.int .u32 (k : Nat)) (by simp only [gT, gZ, gS]; rfl) (puO (by (intro w hSw; (try dsimp only at hSw); go_simp))) ?_
          simp only [Act.put, pA, pZ, pS]
          refine tkO 9 (.bool false) (by simp only [gT, gZ, gS]; rfl) (puO (by (intro w hSw; (try dsimp only at hSw); go_simp))) ?_
          simp only [Act.put, pA, pZ, pS]
          refine tkO 10 (.bool false) (by simp only [gT, gZ, gS]; rfl) (puO (by (intro w hSw; (try dsimp only at hSw); go_simp))) ?_
          simp only [Act.put, pA, pZ, pS]
          refine tkO 11 (.bool false) (by simp only [gT, gZ, gS]; rfl) (puO (by (intro w hSw; (try dsimp only at hSw); go_simp))) ?_
          simp only [Act.put, pA, pZ, pS]
          refine tkO 12 (.slice (some ⟨ga, 0, none⟩) 1 ca) (by simp only [gT, gZ, gS]; rfl) (puO (by (intro w hSw; (try dsimp only at hSw); go_simp))) ?_
          simp only [Act.put, pA, pZ, pS]
          refine tkO 13 (.pointer (some ⟨ga, 0, none⟩)) (by simp only [gT, gZ, gS]; rfl) (puO (by (intro w hSw; (try dsimp only at hSw); go_simp))) ?_
          simp only [Act.put, pA, pZ, pS]
          refine tkO 14 (.pointer (some ⟨ga, 1, none⟩)) (by simp only [gT, gZ, gS]; rfl) (puO (by (intro w hSw; (try dsimp only at hSw); go_simp))) ?_
          simp only [Act.put, pA, pZ, pS]
          refine tkO 15 (.bool true) (by simp only [gT, gZ, gS]; rfl) (y_cellg ga 1 _ (fun V hV => (hV.1.cell 1).trans k1) _ Tryz.underlying4 rfl rfl (by rfl)) ?_
          simp only [Act.put, pA, pZ, pS]
          refine tkO 16 (.bool false) (by simp only [gT, gZ, gS]; rfl) (puO (by (intro w hSw; (try dsimp only at hSw); go_simp))) ?_
          simp only [Act.put, pA, pZ, pS]
          refine tkO 17 (.bool false) (by simp only [gT, gZ, gS]; rfl) (puO (by (intro w hSw; (try dsimp only at hSw); go_simp))) ?_
          simp only [Act.put, pA, pZ, pS]
          refine tkO 18 (.bool false) (by simp only [gT, gZ, gS]; rfl) (puO (by (intro w hSw; (try dsimp only at hSw); go_simp))) ?_
          simp only [Act.put, pA, pZ, pS]
          refine tkO 19 (.slice (some ⟨ga, 0, none⟩) 1 ca) (by simp only [gT, gZ, gS]; rfl) (puO (by (intro w hSw; (try dsimp only at hSw); go_simp))) ?_
          simp only [Act.put, pA, pZ, pS]
          refine tkO 20 (.pointer (some ⟨ga, 0, none⟩)) (by simp only [gT, gZ, gS]; rfl) (puO (by (intro w hSw; (try dsimp only at hSw); go_simp))) ?_
          simp only [Act.put, pA, pZ, pS]
          refine tkO 21 (.pointer (some ⟨ga, 4, none⟩)) (by simp only [gT, gZ, gS]; rfl) (puO (by (intro w hSw; (try dsimp only at hSw); go_simp))) ?_
          simp only [Act.put, pA, pZ, pS]
          refine tkO 22 dv (by simp only [gT, gZ, gS]; rfl) (y_cellg ga 4 _ (fun V hV => (hV.1.cell 4).trans k4) _ Tryz.underlying37 rfl rfl (by rfl)) ?_
          simp only [Act.put, pA, pZ, pS]
          refine tkO 23 (.string tx) (by simp only [gT, gZ, gS]; rfl) (y_conv dv (.string tx) (fun V hV => hV.2.1) rfl (by rfl)) ?_
          simp only [Act.put, pA, pZ, pS]
          refine tkO 24 (.slice (some ⟨B, 0, none⟩) 512 512) (by simp only [gT, gZ, gS]; rfl) (puO (by (intro w hSw; (try dsimp only at hSw); go_simp))) ?_
          simp only [Act.put, pA, pZ, pS]
          refine tkO 25 (.string tx) (by simp only [gT, gZ, gS]; rfl) (y_conv (.slice (some ⟨B, 0, none⟩) 512 512) (.string tx) (fun V hV => hV.2.2) rfl (by rfl)) ?_
          simp only [Act.put, pA, pZ, pS]
          refine tkO 26 (.bool false) (by simp only [gT, gZ, gS]; rfl) (puO (by (intro w hSw; (try dsimp only at hSw); go_simp))) ?_
          simp only [Act.put, pA, pZ, pS]
          refine tkO 27 (.bool false) (by simp only [gT, gZ, gS]; rfl) (puO (by (intro w hSw; (try dsimp only at hSw); go_simp))) ?_
          simp only [Act.put, pA, pZ, pS]
          refine wpAnyH_done (by kernel_rfl) ?_ _
          replace hM := hM.dr
          replace hA := hA.drR
          replace hb := hb.drew
          replace hI := hI.dr
          replace hgr := hgr.dr
          replace hr := hr.dr
          clear hHeld hDv hcA hcF hcA2 hcF2 hf hnf
          generalize World.drew _ = V0 at hM hA hb hI hgr hr ⊢
          go_simp
          go_wp2
          refine wp_region_held_drew (S := (fun V => RowAt V NR ((woS k).c (.slice va1 1 vc1)) 53 ∧ RowAt V ga cur 81)) (by kernel_rfl) ?_ (fun hHeld => ?_)
          · exact ⟨hr.dr, hgr.dr⟩
          replace hM := hM.dr
          replace hA := hA.drR
          replace hb := hb.drew
          replace hI := hI.dr
          have hNl : NR < (World.drew _).heap.size := hr.lt
          generalize World.drew _ = V at hHeld hM hA hb hI hNl ⊢
          clear hr hgr
          refine tkO 0 (.agg ((woS k).c (.slice va1 1 vc1))) (by simp only [gT, gZ]; rfl) (y_bk NR (woS k) (.slice va1 1 vc1) (fun V hV => hV.1) rfl rfl) ?_
          simp only [Act.put, pA, pZ, pS]
          refine tkO 1 (.pointer (some ⟨b, 0, none⟩)) (by simp only [gT, gZ, gS]; rfl) (puO (by (intro w hSw; (try dsimp only at hSw); go_simp))) ?_
          simp only [Act.put, pA, pZ, pS]
          refine tkO 2 (.slice (some ⟨ga, 0, none⟩) 1 ca) (by simp only [gT, gZ, gS]; rfl) (puO (by (intro w hSw; (try dsimp only at hSw); go_simp))) ?_
          simp only [Act.put, pA, pZ, pS]
          refine tkO 3 (.pointer (some ⟨ga, 0, none⟩)) (by simp only [gT, gZ, gS]; rfl) (puO (by (intro w hSw; (try dsimp only at hSw); go_simp))) ?_
          simp only [Act.put, pA, pZ, pS]
          refine tkO 4 (.pointer (some ⟨ga, 0, none⟩)) (by simp only [gT, gZ, gS]; rfl) (puO (by (intro w hSw; (try dsimp only at hSw); go_simp))) ?_
          simp only [Act.put, pA, pZ, pS]
          refine tkO 5 (.int .u32 0) (by simp only [gT, gZ, gS]; rfl) (y_cellg ga 0 _ (fun V hV => (hV.2.cell 0).trans k0) _ Tryz.underlying22 rfl rfl (by rfl)) ?_
          simp only [Act.put, pA, pZ, pS]
          refine wpAnyH_ready (rs := [6, 10]) (by kernel_rfl) (by simp) ?_
          refine AllReadyH.cons (o := ?oiqu35) ?hiqu35 (fun K hK => ?bqu35) (AllReadyH.cons (o := ?oiqu36) ?hiqu36 (fun K hK => ?bqu36) AllReadyH.nil)
          case hiqu35 => (simp only [List.getElem?_toArray, List.getElem?_cons_zero, List.getElem?_cons_succ]; rfl)
          case hiqu36 => (simp only [List.getElem?_toArray, List.getElem?_cons_zero, List.getElem?_cons_succ]; rfl)
          case bqu35 =>
            rw [if_pos (by rfl)]
            go_simp
            (with_reducible refine (HFi.out _ _ _ _ _ _ hM hA hI).mono ?_)
            rintro e V4 ⟨v2, O3, rfl, hM3, hW3, hI2⟩
            have hH2 := hide (And.intro (hW3.row hHeld.1 hnr) (hW3.row hHeld.2 hgo))
            (have hv2o := own_one hI2.row)
            replace hb := hb.trans (hW3.below.mono (by omega))
            replace hA := hA.wentR hG hW3
            replace hNl := Nat.lt_of_lt_of_le hNl hW3.size
            (have hBl : B + 1 + 1 + 1 ≤ V4.heap.size := by omega)
            (obtain ⟨va2, vc2, rfl⟩ := in_none hI2)
            clear hM hI hW3 hHeld hI2
            go_simp
            refine hK.out _ _ ?_ (fun hHeld => ?_)
            · exact hH2.out
            clear hK K
            clear hH2
            refine tkO 7 (.tuple #[.agg (s3.c (.slice va2 0 vc2)), .nilIface]) (by simp only [gT, gZ, gS]; rfl) (puO (by (intro w hSw; (try dsimp only at hSw); go_simp))) ?_
            simp only [Act.put, pA, pZ, pS]
            refine tkO 8 (.agg (s3.c (.slice va2 0 vc2))) (by simp only [gT, gZ, gS]; rfl) (puO (by (intro w hSw; (try dsimp only at hSw); go_simp))) ?_
            simp only [Act.put, pA, pZ, pS]
            refine tkO 9 (.nilIface) (by simp only [gT, gZ, gS]; rfl) (puO (by (intro w hSw; (try dsimp only at hSw); go_simp))) ?_
            simp only [Act.put, pA, pZ, pS]
            refine skO 10 (by simp only [gT, gZ, gS]; rfl) (fun K hK => ?_)
            rw [if_pos (by rfl)]
            (obtain ⟨NT, hNT0⟩ : ∃ n, V4.heap.size = n := ⟨_, rfl⟩)
            (with_reducible refine s_alc NT ?_ (zeroBk.c nilS) zero_bk ?_)
            · exact hNT0
            intro V3 ht hbc hz
            rw [← hNT0] at hbc
            (have hNRT : NR < NT := hNT0 ▸ hNl)
            (have hgT : ga < NT := hNT0 ▸ hHeld.2.lt)
            (have hnt : ¬ O3 NT := fun e => absurd (hM3.lt _ e) (by omega))
            clear hz hNT0
            have hH2 := hide (And.intro (hHeld.1.bl hbc) (hHeld.2.bl hbc))
            replace hb := hb.trans (hbc.mono (by omega))
            replace hM3 := hM3.bl hbc
            replace hA := hA.bl hbc
            replace hNl := Nat.lt_of_lt_of_le hNl hbc.size
            clear hHeld hbc
            refine hK.out _ _ ?_ (fun hHeld => ?_)
            · exact hH2.out
            clear hK K
            clear hH2
            refine skO 11 (by simp only [gT, gZ, gS]; rfl) (fun K hK => ?_)
            rw [if_pos (by rfl)]
            (with_reducible refine s_bk NT _ _ s3 (.slice va2 0 vc2) hv2o ht ?_ ?_ ?_)
            · exact rfl
            · exact rfl
            intro V5 hnew hoo
            have hH2 := hide (And.intro (hHeld.1.only hoo (by omega)) (hHeld.2.only hoo (by omega)))
            replace hM3 := hM3.only hoo hnt
            replace hA := hA.onlyR hoo (by omega)
            replace hb := hoo.bel _ _ (by omega) hb
            clear ht
            (have ht := hnew)
            clear hHeld hoo hnew
            refine hK.out _ _ ?_ (fun hHeld => ?_)
            · exact hH2.out
            clear hK K
            clear hH2
            refine tkO 12 (.nilIface) (by simp only [gT, gZ, gS]; rfl) (puO (by (intro w hSw; (try dsimp only at hSw); go_simp))) ?_
            simp only [Act.put, pA, pZ, pS]
            refine wpAnyH_done (by kernel_rfl) ?_ _
            go_simp
            go_wp2_with (first | (go_at_call 24; (with_reducible refine (HLd.out _ _ _ hM3).mono ?_); rintro e W6 ⟨rfl, O6, hM6, hW6⟩; replace hb := hb.trans (hW6.below.mono (by omega)); (replace hA := hA.wentR hG hW6); (replace ht := hW6.row ht hnt); clear hW6 hM3) | ((with_reducible refine ld_bin NT s3 _ _ ht ?_ ?_ ?_); exact rfl; exact rfl) | (go_at_call 10; (with_reducible refine (HSu.out _ hA).mono ?_); rintro e W7 ⟨rfl, hbc⟩; replace hb := hb.trans (hbc.mono (by have := hM6.base; omega)); clear hbc))
            go_ret
            exact ⟨rfl, hb⟩
          case bqu36 =>
            rw [if_pos (by rfl)]
            (obtain ⟨NT, hNT0⟩ : ∃ n, V.heap.size = n := ⟨_, rfl⟩)
            (with_reducible refine s_alc NT ?_ (zeroBk.c nilS) zero_bk ?_)
            · exact hNT0
            intro V3 ht hbc hz
            rw [← hNT0] at hbc
            (have hNRT : NR < NT := hNT0 ▸ hNl)
            (have hgT : ga < NT := hNT0 ▸ hHeld.2.lt)
            (have hnt : ¬ O2 NT := fun e => absurd (hM.lt _ e) (by omega))
            clear hz hNT0
            have hH2 := hide (And.intro (hHeld.1.bl hbc) (hHeld.2.bl hbc))
            replace hA := hA.bl hbc
            replace hb := hb.trans (hbc.mono (by have := hM.base; omega))
            replace hM := hM.bl hbc
            replace hI := hI.bl hbc
            replace hNl := Nat.lt_of_lt_of_le hNl hbc.size
            clear hHeld hbc
            refine hK.out _ _ ?_ (fun hHeld => ?_)
            · exact hH2.out
            clear hK K
            clear hH2
            refine skO 6 (by simp only [gT, gZ, gS]; rfl) (fun K hK => ?_)
            rw [if_pos (by rfl)]
            go_simp
            (with_reducible refine (HFi.out _ _ _ _ _ _ hM hA hI).mono ?_)
            rintro e V4 ⟨v2, O3, rfl, hM3, hW3, hI2⟩
            have hH2 := hide (And.intro (hW3.row hHeld.1 hnr) (hW3.row hHeld.2 hgo))
            (have hv2o := own_one hI2.row)
            (have hnt3 := hW3.no ht.lt hnt)
            replace ht := hW3.row ht hnt
            clear hnt
            (have hnt := hnt3)
            clear hnt3
            replace hb := hb.trans (hW3.below.mono (by omega))
            replace hA := hA.wentR hG hW3
            replace hNl := Nat.lt_of_lt_of_le hNl hW3.size
            (have hBl : B + 1 + 1 + 1 ≤ V4.heap.size := by omega)
            (obtain ⟨va2, vc2, rfl⟩ := in_none hI2)
            clear hM hI hW3 hHeld hI2
            go_simp
            refine hK.out _ _ ?_ (fun hHeld => ?_)
            · exact hH2.out
            clear hK K
            clear hH2
            refine tkO 7 (.tuple #[.agg (s3.c (.slice va2 0 vc2)), .nilIface]) (by simp only [gT, gZ, gS]; rfl) (puO (by (intro w hSw; (try dsimp only at hSw); go_simp))) ?_
            simp only [Act.put, pA, pZ, pS]
            refine tkO 8 (.agg (s3.c (.slice va2 0 vc2))) (by simp only [gT, gZ, gS]; rfl) (puO (by (intro w hSw; (try dsimp only at hSw); go_simp))) ?_
            simp only [Act.put, pA, pZ, pS]
            refine tkO 9 (.nilIface) (by simp only [gT, gZ, gS]; rfl) (puO (by (intro w hSw; (try dsimp only at hSw); go_simp))) ?_
            simp only [Act.put, pA, pZ, pS]
            refine skO 11 (by simp only [gT, gZ, gS]; rfl) (fun K hK => ?_)
            rw [if_pos (by rfl)]
            (with_reducible refine s_bk NT _ _ s3 (.slice va2 0 vc2) hv2o ht ?_ ?_ ?_)
            · exact rfl
            · exact rfl
            intro V5 hnew hoo
            have hH2 := hide (And.intro (hHeld.1.only hoo (by omega)) (hHeld.2.only hoo (by omega)))
            replace hM3 := hM3.only hoo hnt
            replace hA := hA.onlyR hoo (by omega)
            replace hb := hoo.bel _ _ (by omega) hb
            clear ht
            (have ht := hnew)
            clear hHeld hoo hnew
            refine hK.out _ _ ?_ (fun hHeld => ?_)
            · exact hH2.out
            clear hK K
            clear hH2
            refine tkO 12 (.nilIface) (by simp only [gT, gZ, gS]; rfl) (puO (by (intro w hSw; (try dsimp only at hSw); go_simp))) ?_
            simp only [Act.put, pA, pZ, pS]
            refine wpAnyH_done (by kernel_rfl) ?_ _
            go_simp
            go_wp2_with (first | (go_at_call 24; (with_reducible refine (HLd.out _ _ _ hM3).mono ?_); rintro e W6 ⟨rfl, O6, hM6, hW6⟩; replace hb := hb.trans (hW6.below.mono (by omega)); (replace hA := hA.wentR hG hW6); (replace ht := hW6.row ht hnt); clear hW6 hM3) | ((with_reducible refine ld_bin NT s3 _ _ ht ?_ ?_ ?_); exact rfl; exact rfl) | (go_at_call 10; (with_reducible refine (HSu.out _ hA).mono ?_); rintro e W7 ⟨rfl, hbc⟩; replace hb := hb.trans (hbc.mono (by have := hM6.base; omega)); clear hbc))
            go_ret
            exact ⟨rfl, hb⟩
        · skip
          have hcA := HAc.out _ _ _ _ hDv
          have hcF := HFc.out _ _ hf HFE.out
          have hcA2 := HAc.out _ _ _ _ (hDv.keep (W := World.drew _) (O' := O2) (fun g cs hg hn => ⟨rfl, hn⟩))
          have hcF2 := HFc.out _ _ hf.dr HFE.out
          (obtain ⟨va1, vc1, rfl⟩ := in_one hI)
          refine wp_region_held_drew (S := (fun V => RowAt V ga cur 81 ∧ (convert 37 9 dv).run Tryz.prog V = .ok (.string tx) V ∧ (convert 37 9 (.slice (some ⟨B, 0, none⟩) 512 512)).run Tryz.prog V = .ok (.string tx) V)) (by kernel_rfl) ?_ (fun hHeld => ?_)
          · exact ⟨hgr.dr, hcA2, hcF2⟩
          refine tkO 0 (.slice (some ⟨ga, 0, none⟩) 1 ca) (by simp only [gT, gZ]; rfl) (puO (by (intro w hSw; (try dsimp only at hSw); go_simp))) ?_
          simp only [Act.put, pA, pZ, pS]
          refine tkO 1 (.int .i64 1) (by simp only [gT, gZ, gS]; rfl) (puO (by (intro w hSw; (try dsimp only at hSw); go_simp))) ?_
          simp only [Act.put, pA, pZ, pS]
          refine tkO 2 (.bool false) (by simp only [gT, gZ, gS]; rfl) (puO (by (intro w hSw; (try dsimp only at hSw); go_simp))) ?_
          simp only [Act.put, pA, pZ, pS]
          refine tkO 3 (.bool false) (by simp only [gT, gZ, gS]; rfl) (puO (by (intro w hSw; (try dsimp only at hSw); go_simp))) ?_
          simp only [Act.put, pA, pZ, pS]
          refine tkO 4 (.slice (some ⟨ga, 0, none⟩) 1 ca) (by simp only [gT, gZ, gS]; rfl) (puO (by (intro w hSw; (try dsimp only at hSw); go_simp))) ?_
          simp only [Act.put, pA, pZ, pS]
          refine tkO 5 (.pointer (some ⟨ga, 0, none⟩)) (by simp only [gT, gZ, gS]; rfl) (puO (by (intro w hSw; (try dsimp only at hSw); go_simp))) ?_
          simp only [Act.put, pA, pZ, pS]
          refine tkO 6 (.pointer (some ⟨ga, 2, none⟩)) (by simp only [gT, gZ, gS]; rfl) (puO (by (intro w hSw; (try dsimp only at hSw); go_simp))) ?_
          simp only [Act.put, pA, pZ, pS]
          refine tkO 7 (.int .u32 (k : Nat)) (by simp only [gT, gZ, gS]; rfl) (y_cellg ga 2 _ (fun V hV => (hV.1.cell 2).trans k2) _ Tryz.underlying22 rfl rfl (by rfl)) ?_
          simp only [Act.put, pA, pZ, pS]
          refine tkO 8 (.int .u32 (k : Nat)) (by simp only [gT, gZ, gS]; rfl) (puO (by (intro w hSw; (try dsimp only at hSw); go_simp))) ?_
          simp only [Act.put, pA, pZ, pS]
          refine tkO 9 (.bool false) (by simp only [gT, gZ, gS]; rfl) (puO (by (intro w hSw; (try dsimp only at hSw); go_simp))) ?_
          simp only [Act.put, pA, pZ, pS]
          refine tkO 10 (.bool false) (by simp only [gT, gZ, gS]; rfl) (puO (by (intro w hSw; (try dsimp only at hSw); go_simp))) ?_
          simp only [Act.put, pA, pZ, pS]
          refine tkO 11 (.bool false) (by simp only [gT, gZ, gS]; rfl) (puO (by (intro w hSw; (try dsimp only at hSw); go_simp))) ?_
          simp only [Act.put, pA, pZ, pS]
          refine tkO 12 (.slice (some ⟨ga, 0, none⟩) 1 ca) (by simp only [gT, gZ, gS]; rfl) (puO (by (intro w hSw; (try dsimp only at hSw); go_simp))) ?_
          simp only [Act.put, pA, pZ, pS]
          refine tkO 13 (.pointer (some ⟨ga, 0, none⟩)) (by simp only [gT, gZ, gS]; rfl) (puO (by (intro w hSw; (try dsimp only at hSw); go_simp))) ?_
          simp only [Act.put, pA, pZ, pS]
          refine tkO 14 (.pointer (some ⟨ga, 1, none⟩)) (by simp only [gT, gZ, gS]; rfl) (puO (by (intro w hSw; (try dsimp only at hSw); go_simp))) ?_
          simp only [Act.put, pA, pZ, pS]
          refine tkO 15 (.bool true) (by simp only [gT, gZ, gS]; rfl) (y_cellg ga 1 _ (fun V hV => (hV.1.cell 1).trans k1) _ Tryz.underlying4 rfl rfl (by rfl)) ?_
          simp only [Act.put, pA, pZ, pS]
          refine tkO 16 (.bool false) (by simp only [gT, gZ, gS]; rfl) (puO (by (intro w hSw; (try dsimp only at hSw); go_simp))) ?_
          simp only [Act.put, pA, pZ, pS]
          refine tkO 17 (.bool false) (by simp only [gT, gZ, gS]; rfl) (puO (by (intro w hSw; (try dsimp only at hSw); go_simp))) ?_
          simp only [Act.put, pA, pZ, pS]
          refine tkO 18 (.bool false) (by simp only [gT, gZ, gS]; rfl) (puO (by (intro w hSw; (try dsimp only at hSw); go_simp))) ?_
          simp only [Act.put, pA, pZ, pS]
          refine tkO 19 (.slice (some ⟨ga, 0, none⟩) 1 ca) (by simp only [gT, gZ, gS]; rfl) (puO (by (intro w hSw; (try dsimp only at hSw); go_simp))) ?_
          simp only [Act.put, pA, pZ, pS]
          refine tkO 20 (.pointer (some ⟨ga, 0, none⟩)) (by simp only [gT, gZ, gS]; rfl) (puO (by (intro w hSw; (try dsimp only at hSw); go_simp))) ?_
          simp only [Act.put, pA, pZ, pS]
          refine tkO 21 (.pointer (some ⟨ga, 4, none⟩)) (by simp only [gT, gZ, gS]; rfl) (puO (by (intro w hSw; (try dsimp only at hSw); go_simp))) ?_
          simp only [Act.put, pA, pZ, pS]
          refine tkO 22 dv (by simp only [gT, gZ, gS]; rfl) (y_cellg ga 4 _ (fun V hV => (hV.1.cell 4).trans k4) _ Tryz.underlying37 rfl rfl (by rfl)) ?_
          simp only [Act.put, pA, pZ, pS]
          refine tkO 23 (.string tx) (by simp only [gT, gZ, gS]; rfl) (y_conv dv (.string tx) (fun V hV => hV.2.1) rfl (by rfl)) ?_
          simp only [Act.put, pA, pZ, pS]
          refine tkO 24 (.slice (some ⟨B, 0, none⟩) 512 512) (by simp only [gT, gZ, gS]; rfl) (puO (by (intro w hSw; (try dsimp only at hSw); go_simp))) ?_
          simp only [Act.put, pA, pZ, pS]
          refine tkO 25 (.string tx) (by simp only [gT, gZ, gS]; rfl) (y_conv (.slice (some ⟨B, 0, none⟩) 512 512) (.string tx) (fun V hV => hV.2.2) rfl (by rfl)) ?_
          simp only [Act.put, pA, pZ, pS]
          refine tkO 26 (.bool false) (by simp only [gT, gZ, gS]; rfl) (puO (by (intro w hSw; (try dsimp only at hSw); go_simp))) ?_
          simp only [Act.put, pA, pZ, pS]
          refine tkO 27 (.bool false) (by simp only [gT, gZ, gS]; rfl) (puO (by (intro w hSw; (try dsimp only at hSw); go_simp))) ?_
          simp only [Act.put, pA, pZ, pS]
          refine wpAnyH_done (by kernel_rfl) ?_ _
          replace hM := hM.dr
          replace hA := hA.drR
          replace hb := hb.drew
          replace hI := hI.dr
          replace hgr := hgr.dr
          replace hr := hr.dr
          clear hHeld hDv hcA hcF hcA2 hcF2 hf hnf
          generalize World.drew _ = V0 at hM hA hb hI hgr hr ⊢
          go_simp
          go_wp2
          refine wp_region_held_drew (S := (fun V => RowAt V NR ((woS k).c (.slice va1 1 vc1)) 53 ∧ RowAt V ga cur 81)) (by kernel_rfl) ?_ (fun hHeld => ?_)
          · exact ⟨hr.dr, hgr.dr⟩
          replace hM := hM.dr
          replace hA := hA.drR
          replace hb := hb.drew
          replace hI := hI.dr
          have hNl : NR < (World.drew _).heap.size := hr.lt
          generalize World.drew _ = V at hHeld hM hA hb hI hNl ⊢
          clear hr hgr
          refine tkO 0 (.agg ((woS k).c (.slice va1 1 vc1))) (by simp only [gT, gZ]; rfl) (y_bk NR (woS k) (.slice va1 1 vc1) (fun V hV => hV.1) rfl rfl) ?_
          simp only [Act.put, pA, pZ, pS]
          refine tkO 1 (.pointer (some ⟨b, 0, none⟩)) (by simp only [gT, gZ, gS]; rfl) (puO (by (intro w hSw; (try dsimp only at hSw); go_simp))) ?_
          simp only [Act.put, pA, pZ, pS]
          refine tkO 2 (.slice (some ⟨ga, 0, none⟩) 1 ca) (by simp only [gT, gZ, gS]; rfl) (puO (by (intro w hSw; (try dsimp only at hSw); go_simp))) ?_
          simp only [Act.put, pA, pZ, pS]
          refine tkO 3 (.pointer (some ⟨ga, 0, none⟩)) (by simp only [gT, gZ, gS]; rfl) (puO (by (intro w hSw; (try dsimp only at hSw); go_simp))) ?_
          simp only [Act.put, pA, pZ, pS]
          refine tkO 4 (.pointer (some ⟨ga, 0, none⟩)) (by simp only [gT, gZ, gS]; rfl) (puO (by (intro w hSw; (try dsimp only at hSw); go_simp))) ?_
          simp only [Act.put, pA, pZ, pS]
          refine tkO 5 (.int .u32 0) (by simp only [gT, gZ, gS]; rfl) (y_cellg ga 0 _ (fun V hV => (hV.2.cell 0).trans k0) _ Tryz.underlying22 rfl rfl (by rfl)) ?_
          simp only [Act.put, pA, pZ, pS]
          refine wpAnyH_ready (rs := [6, 10]) (by kernel_rfl) (by simp) ?_
          refine AllReadyH.cons (o := ?oiqv35) ?hiqv35 (fun K hK => ?bqv35) (AllReadyH.cons (o := ?oiqv36) ?hiqv36 (fun K hK => ?bqv36) AllReadyH.nil)
          case hiqv35 => (simp only [List.getElem?_toArray, List.getElem?_cons_zero, List.getElem?_cons_succ]; rfl)
          case hiqv36 => (simp only [List.getElem?_toArray, List.getElem?_cons_zero, List.getElem?_cons_succ]; rfl)
          case bqv35 =>
            rw [if_pos (by rfl)]
            go_simp
            (with_reducible refine (HFi.out _ _ _ _ _ _ hM hA hI).mono ?_)
            rintro e V4 ⟨v2, O3, rfl, hM3, hW3, hI2⟩
            have hH2 := hide (And.intro (hW3.row hHeld.1 hnr) (hW3.row hHeld.2 hgo))
            (have hv2o := own_one hI2.row)
            replace hb := hb.trans (hW3.below.mono (by omega))
            replace hA := hA.wentR hG hW3
            replace hNl := Nat.lt_of_lt_of_le hNl hW3.size
            (have hBl : B + 1 + 1 + 1 ≤ V4.heap.size := by omega)
            (obtain ⟨va2, vc2, rfl⟩ := in_none hI2)
            clear hM hI hW3 hHeld hI2
            go_simp
            refine hK.out _ _ ?_ (fun hHeld => ?_)
            · exact hH2.out
            clear hK K
            clear hH2
            refine tkO 7 (.tuple #[.agg (s3.c (.slice va2 0 vc2)), .nilIface]) (by simp only [gT, gZ, gS]; rfl) (puO (by (intro w hSw; (try dsimp only at hSw); go_simp))) ?_
            simp only [Act.put, pA, pZ, pS]
            refine tkO 8 (.agg (s3.c (.slice va2 0 vc2))) (by simp only [gT, gZ, gS]; rfl) (puO (by (intro w hSw; (try dsimp only at hSw); go_simp))) ?_
            simp only [Act.put, pA, pZ, pS]
            refine tkO 9 (.nilIface) (by simp only [gT, gZ, gS]; rfl) (puO (by (intro w hSw; (try dsimp only at hSw); go_simp))) ?_
            simp only [Act.put, pA, pZ, pS]
            refine skO 10 (by simp only [gT, gZ, gS]; rfl) (fun K hK => ?_)
            rw [if_pos (by rfl)]
            (obtain ⟨NT, hNT0⟩ : ∃ n, V4.heap.size = n := ⟨_, rfl⟩)
            (with_reducible refine s_alc NT ?_ (zeroBk.c nilS) zero_bk ?_)
            · exact hNT0
            intro V3 ht hbc hz
            rw [← hNT0] at hbc
            (have hNRT : NR < NT := hNT0 ▸ hNl)
            (have hgT : ga < NT := hNT0 ▸ hHeld.2.lt)
            (have hnt : ¬ O3 NT := fun e => absurd (hM3.lt _ e) (by omega))
            clear hz hNT0
            have hH2 := hide (And.intro (hHeld.1.bl hbc) (hHeld.2.bl hbc))
            replace hb := hb.trans (hbc.mono (by omega))
            replace hM3 := hM3.bl hbc
            replace hA := hA.bl hbc
            replace hNl := Nat.lt_of_lt_of_le hNl hbc.size
            clear hHeld hbc
            refine hK.out _ _ ?_ (fun hHeld => ?_)
            · exact hH2.out
            clear hK K
            clear hH2
            refine skO 11 (by simp only [gT, gZ, gS]; rfl) (fun K hK => ?_)
            rw [if_pos (by rfl)]
            (with_reducible refine s_bk NT _ _ s3 (.slice va2 0 vc2) hv2o ht ?_ ?_ ?_)
            · exact rfl
            · exact rfl
            intro V5 hnew hoo
            have hH2 := hide (And.intro (hHeld.1.only hoo (by omega)) (hHeld.2.only hoo (by omega)))
            replace hM3 := hM3.only hoo hnt
            replace hA := hA.onlyR hoo (by omega)
            replace hb := hoo.bel _ _ (by omega) hb
            clear ht
            (have ht := hnew)
            clear hHeld hoo hnew
            refine hK.out _ _ ?_ (fun hHeld => ?_)
            · exact hH2.out
            clear hK K
            clear hH2
            refine tkO 12 (.nilIface) (by simp only [gT, gZ, gS]; rfl) (puO (by (intro w hSw; (try dsimp only at hSw); go_simp))) ?_
            simp only [Act.put, pA, pZ, pS]
            refine wpAnyH_done (by kernel_rfl) ?_ _
            go_simp
            go_wp2_with (first | (go_at_call 24; (with_reducible refine (HLd.out _ _ _ hM3).mono ?_); rintro e W6 ⟨rfl, O6, hM6, hW6⟩; replace hb := hb.trans (hW6.below.mono (by omega)); (replace hA := hA.wentR hG hW6); (replace ht := hW6.row ht hnt); clear hW6 hM3) | ((with_reducible refine ld_bin NT s3 _ _ ht ?_ ?_ ?_); exact rfl; exact rfl) | (go_at_call 10; (with_reducible refine (HSu.out _ hA).mono ?_); rintro e W7 ⟨rfl, hbc⟩; replace hb := hb.trans (hbc.mono (by have := hM6.base; omega)); clear hbc))
            go_ret
            exact ⟨rfl, hb⟩
          case bqv36 =>
            rw [if_pos (by rfl)]
            (obtain ⟨NT, hNT0⟩ : ∃ n, V.heap.size = n := ⟨_, rfl⟩)
            (with_reducible refine s_alc NT ?_ (zeroBk.c nilS) zero_bk ?_)
            · exact hNT0
            intro V3 ht hbc hz
            rw [← hNT0] at hbc
            (have hNRT : NR < NT := hNT0 ▸ hNl)
            (have hgT : ga < NT := hNT0 ▸ hHeld.2.lt)
            (have hnt : ¬ O2 NT := fun e => absurd (hM.lt _ e) (by omega))
            clear hz hNT0
            have hH2 := hide (And.intro (hHeld.1.bl hbc) (hHeld.2.bl hbc))
            replace hA := hA.bl hbc
            replace hb := hb.trans (hbc.mono (by have := hM.base; omega))
            replace hM := hM.bl hbc
            replace hI := hI.bl hbc
            replace hNl := Nat.lt_of_lt_of_le hNl hbc.size
            clear hHeld hbc
            refine hK.out _ _ ?_ (fun hHeld => ?_)
            · exact hH2.out
            clear hK K
            clear hH2
            refine skO 6 (by simp only [gT, gZ, gS]; rfl) (fun K hK => ?_)
            rw [if_pos (by rfl)]
            go_simp
            (with_reducible refine (HFi.out _ _ _ _ _ _ hM hA hI).mono ?_)
            rintro e V4 ⟨v2, O3, rfl, hM3, hW3, hI2⟩
            have hH2 := hide (And.intro (hW3.row hHeld.1 hnr) (hW3.row hHeld.2 hgo))
            (have hv2o := own_one hI2.row)
            (have hnt3 := hW3.no ht.lt hnt)
            replace ht := hW3.row ht hnt
            clear hnt
            (have hnt := hnt3)
            clear hnt3
            replace hb := hb.trans (hW3.below.mono (by omega))
            replace hA := hA.wentR hG hW3
            replace hNl := Nat.lt_of_lt_of_le hNl hW3.size
            (have hBl : B + 1 + 1 + 1 ≤ V4.heap.size := by omega)
            (obtain ⟨va2, vc2, rfl⟩ := in_none hI2)
            clear hM hI hW3 hHeld hI2
            go_simp
            refine hK.out _ _ ?_ (fun hHeld => ?_)
            · exact hH2.out
            clear hK K
            clear hH2
            refine tkO 7 (.tuple #[.agg (s3.c (.slice va2 0 vc2)), .nilIface]) (by simp only [gT, gZ, gS]; rfl) (puO (by (intro w hSw; (try dsimp only at hSw); go_simp))) ?_
            simp only [Act.put, pA, pZ, pS]
            refine tkO 8 (.agg (s3.c (.slice va2 0 vc2))) (by simp only [gT, gZ, gS]; rfl) (puO (by (intro w hSw; (try dsimp only at hSw); go_simp))) ?_
            simp only [Act.put, pA, pZ, pS]
            refine tkO 9 (.nilIface) (by simp only [gT, gZ, gS]; rfl) (puO (by (intro w hSw; (try dsimp only at hSw); go_simp))) ?_
            simp only [Act.put, pA, pZ, pS]
            refine skO 11 (by simp only [gT, gZ, gS]; rfl) (fun K hK => ?_)
            rw [if_pos (by rfl)]
            (with_reducible refine s_bk NT _ _ s3 (.slice va2 0 vc2) hv2o ht ?_ ?_ ?_)
            · exact rfl
            · exact rfl
            intro V5 hnew hoo
            have hH2 := hide (And.intro (hHeld.1.only hoo (by omega)) (hHeld.2.only hoo (by omega)))
            replace hM3 := hM3.only hoo hnt
            replace hA := hA.onlyR hoo (by omega)
            replace hb := hoo.bel _ _ (by omega) hb
            clear ht
            (have ht := hnew)
            clear hHeld hoo hnew
            refine hK.out _ _ ?_ (fun hHeld => ?_)
            · exact hH2.out
            clear hK K
            clear hH2
            refine tkO 12 (.nilIface) (by simp only [gT, gZ, gS]; rfl) (puO (by (intro w hSw; (try dsimp only at hSw); go_simp))) ?_
            simp only [Act.put, pA, pZ, pS]
            refine wpAnyH_done (by kernel_rfl) ?_ _
            go_simp
            go_wp2_with (first | (go_at_call 24; (with_reducible refine (HLd.out _ _ _ hM3).mono ?_); rintro e W6 ⟨rfl, O6, hM6, hW6⟩; replace hb := hb.trans (hW6.below.mono (by omega)); (replace hA := hA.wentR hG hW6); (replace ht := hW6.row ht hnt); clear hW6 hM3) | ((with_reducible refine ld_bin NT s3 _ _ ht ?_ ?_ ?_); exact rfl; exact rfl) | (go_at_call 10; (with_reducible refine (HSu.out _ hA).mono ?_); rintro e W7 ⟨rfl, hbc⟩; replace hb := hb.trans (hbc.mono (by have := hM6.base; omega)); clear hbc))
            go_ret
            exact ⟨rfl, hb⟩
end Go.Proofs.YtaaiockiojejeaaGreatDoor
