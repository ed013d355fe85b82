/-
  BlkReads, walked.
-/
import Derived.Test.YtaaiockiojejeaaGreatDoorJR39
import Derived.Test.YtaaiockiojejeaaGreatDoorJR10
namespace Go.Proofs.YtaaiockiojejeaaGreatDoor
open Go.RowKit
set_option linter.unusedVariables false
set_option linter.unusedSimpArgs false

variable {ops : Array Oper} {rest : List Oper} {dst : Option Tmp} {ty : TypeId} {pos : String} {after : Array Edge} {a : Act} {w : World} {Q : Exit → Act → World → Prop} {K : Act → World → Prop} {x y : Operand} {gd : Option (Nat × Bool)}
def rdpC (c k : Nat) : Array Value := #[.int .u32 (0), .int .u32 (2147484416), .int .u32 (8), .int .u32 (16), .int .u32 (12), .int .u32 (65537), .int .u32 (16), .int .u32 (2147487744), .int .u32 (24), .int .u32 ((c : Nat)), .int .u32 (28), .int .u32 (131075), .int .u32 (32), .int .u32 (2147488768), .int .u32 (40), .int .u32 (513 - (c : Int)), .int .u32 (44), .int .u32 (2), .int .u32 (256), .int .u32 (65536), .int .u32 (776), .int .u32 ((k : Nat))]
theorem bs_rdp (c k : Nat) (N : Nat) (hN : w.heap.size = N) (x0 x1 x2 x3 x4 x5 x6 x7 x8 x9 x10 : Operand) (h0 : a.eval x0 = .agg #[.int .u32 (0), .int .u32 (2147484416)]) (h1 : a.eval x1 = .agg #[.int .u32 (8), .int .u32 (16)]) (h2 : a.eval x2 = .agg #[.int .u32 (12), .int .u32 (65537)]) (h3 : a.eval x3 = .agg #[.int .u32 (16), .int .u32 (2147487744)]) (h4 : a.eval x4 = .agg #[.int .u32 (24), .int .u32 ((c : Nat))]) (h5 : a.eval x5 = .agg #[.int .u32 (28), .int .u32 (131075)]) (h6 : a.eval x6 = .agg #[.int .u32 (32), .int .u32 (2147488768)]) (h7 : a.eval x7 = .agg #[.int .u32 (40), .int .u32 (513 - (c : Int))]) (h8 : a.eval x8 = .agg #[.int .u32 (44), .int .u32 (2)]) (h9 : a.eval x9 = .agg #[.int .u32 (256), .int .u32 (65536)]) (h10 : a.eval x10 = .agg #[.int .u32 (776), .int .u32 ((k : Nat))])
    (kont : ∀ W, RowAt W N (rdpC c k) 23 → Below N w W → Hid (W.heap.size = N + 1) → wpList Tryz.prog ops Q rest (a.put dst (.slice (some ⟨N, 0, none⟩) 11 11)) W) :
    wpList Tryz.prog ops Q (⟨dst, .buildSlice 35 11 #[(0, x0), (1, x1), (2, x2), (3, x3), (4, x4), (5, x5), (6, x6), (7, x7), (8, x8), (9, x9), (10, x10)], ty, pos, after, none⟩ :: rest) a w :=
  op_bsn 35 23 11 Tryz.underlying35 (rdpC c k) N hN [(0, .agg #[.int .u32 (0), .int .u32 (2147484416)]), (1, .agg #[.int .u32 (8), .int .u32 (16)]), (2, .agg #[.int .u32 (12), .int .u32 (65537)]), (3, .agg #[.int .u32 (16), .int .u32 (2147487744)]), (4, .agg #[.int .u32 (24), .int .u32 ((c : Nat))]), (5, .agg #[.int .u32 (28), .int .u32 (131075)]), (6, .agg #[.int .u32 (32), .int .u32 (2147488768)]), (7, .agg #[.int .u32 (40), .int .u32 (513 - (c : Int))]), (8, .agg #[.int .u32 (44), .int .u32 (2)]), (9, .agg #[.int .u32 (256), .int .u32 (65536)]), (10, .agg #[.int .u32 (776), .int .u32 ((k : Nat))])] (by simp [h0, h1, h2, h3, h4, h5, h6, h7, h8, h9, h10]) ⟨by kernel_rfl⟩ kont
theorem pairs_rdp (c k : Nat) {W : World} {N B : Nat} (h : RowAt W N (rdpC c k) 23) (hB : N < B) (hc : c ≤ 512) (hk : k < 99) : PairsAt W B (some ⟨N, 0, none⟩) 11 (rdG c k) := by
  refine ⟨fun j hj => ⟨N, 0, rfl, hB, ?_, ?_⟩, fun j hj => ?_⟩
  · rw [h.cell]; rcases j with _ | _ | _ | _ | _ | _ | _ | _ | _ | _ | _ | j <;> first | rfl | omega
  · rw [h.cell]; rcases j with _ | _ | _ | _ | _ | _ | _ | _ | _ | _ | _ | j <;> first | rfl | omega | (simp [rdpC, rdG]; done) | (simp [rdpC, rdG]; omega)
  · rcases j with _ | _ | _ | _ | _ | _ | _ | _ | _ | _ | _ | j <;> first | (constructor <;> decide) | omega | (constructor <;> first | decide | (simp [rdG]; done) | (simp [rdG]; omega))
theorem rdQ_ok {k c : Nat} (hk : k < 99) (hc : c ≤ 512) : (rdQ k c).Ok := ⟨by show 0 < _; decide, by show (_ : Int) ≤ 0; decide, by show (0 : Int) ≤ _; decide, by show k < _; omega, by show (_ : Int) ≤ 512; decide, by show (512 : Int) ≤ _; decide, fun g hg => by
  rcases List.mem_cons.1 hg with rfl | hg
  · exact ⟨by show 2147487744 < _; decide, by show (_ : Int) ≤ (c : Nat); omega, by show ((c : Nat) : Int) ≤ _; omega⟩
  · obtain rfl := List.mem_singleton.1 hg
    exact ⟨by show 2147488768 < _; decide, by show (_ : Int) ≤ ((513 - c : Nat) : Int); omega, by show ((513 - c : Nat) : Int) ≤ _; omega⟩, by show 2 ≤ _; decide⟩
theorem rdS_ok {k c : Nat} (hk : k < 99) (hc : c ≤ 512) : (rdS k c).Ok := ⟨lvP_ok (by decide) (by decide) (by decide), by show 100 < _; decide, by show 1 < _; decide, fun q h => by obtain rfl := List.mem_singleton.1 h; exact rdQ_ok hk hc, by show 1 ≤ _; decide⟩
set_option maxRecDepth 20000 in
set_option maxHeartbeats 8000000 in
theorem reads_walk (sec cut : Int) (ba : Option Addr) (bl : List Nat) (bcap : Nat) (w : World) (hBy : BytesAt w w.heap.size ba bl) (hBc : bl.length ≤ bcap) (hBm : bcap ≤ 9223372036854775807) (hA : AreasAt w) :
    Calls Tryz.prog 6 #[.int .i64 sec, .slice ba bl.length bcap, .int .i64 cut] w fun e w' => e = .returned (.bool true) ∧ Below w.heap.size w w' := by
  obtain ⟨B, hB⟩ : ∃ B, w.heap.size = B := ⟨_, rfl⟩
  have hG0 : 2 < B := hB ▸ hA.lt
  have hG : 2 < B + 1 + 1 := by omega
  have HA0 := hide hA
  rw [hB] at hBy ⊢
  have HBy := hide hBy
  have HFS := hide (fulL_small hBy.small)
  obtain ⟨k, hk0⟩ : ∃ k : Nat, sec % 18446744073709551616 % 99 = (k : Int) := ⟨(sec % 18446744073709551616 % 99).toNat, by omega⟩
  have hk : (IntKind.u64.wrap sec).tmod 99 = (k : Int) := by rw [IntKind.wrap_u64, Int.tmod_eq_emod_of_nonneg (by omega)]; exact hk0
  obtain ⟨c, hc0⟩ : ∃ c : Nat, cut % 18446744073709551616 % 513 = (c : Int) := ⟨(cut % 18446744073709551616 % 513).toNat, by omega⟩
  have hc : (IntKind.u64.wrap cut).tmod 513 = (c : Int) := by rw [IntKind.wrap_u64, Int.tmod_eq_emod_of_nonneg (by omega)]; exact hc0
  have hkl : k < 99 := by omega
  have hcl : c ≤ 512 := by omega
  have hkm : (k : Int) % 4294967296 = (k : Int) := by omega
  have hcm : (c : Int) % 4294967296 = (c : Int) := by omega
  clear hk0 hc0
  obtain ⟨f0, hf0⟩ : ∃ x, laidW (rdG c k) 11 = x := ⟨_, rfl⟩
  have HBo : Hid (∀ W, W.heap.size = B + 1 → RowAt W B (rdpC c k) 23 → Calls Tryz.prog 8 #[.slice (some ⟨B, 0, none⟩) 11 11] W fun e w' => ∃ b O r, e = .returned (.tuple #[.pointer (some ⟨b, 0, none⟩), .agg (RP.v r 8192 2)]) ∧ RamB w' (B + 1 + 1) b 2 f0 80 O ∧ Below (B + 1) W w') := hide (fun W hz hr => by
    have h := rboth_any (some ⟨B, 0, none⟩) 11 11 (rdG c k) W (pairs_rdp c k hr (by omega) hcl hkl) (by decide) (by decide)
    rw [hz] at h
    exact h.mono (by
      rintro e w' ⟨b, f, O, r, hf, he, h1, _, h3⟩
      rw [hf] at h1
      rw [← hf0]
      exact ⟨b, O, r, he, h1, h3⟩))
  have HLi := hide blive_any
  have HSu : Hid (∀ W, AreasAt W → Calls Tryz.prog 10 #[] W fun e w' => e = .returned (.bool true) ∧ Below W.heap.size W w') := hide (fun W hA => bsure_any W hA)
  have hpol : polV 2 f0 lvS = ⟨f0, rdS k c, [rdA k]⟩ := by rw [← hf0]; exact rd_laid c k hcl hkl
  have HPo : Hid (∀ W O1 b, RamB W (B + 1 + 1) b 2 f0 80 O1 → AreasAt W → Calls Tryz.prog 12 #[.agg (lvS.c nilS), .pointer (some ⟨b, 0, none⟩)] W fun e w' => ∃ v' av qv dv O', e = .returned (.tuple #[.agg ((rdS k c).c v'), av]) ∧ RamB w' (B + 1 + 1) b 2 f0 262224 O' ∧ Went (B + 1 + 1) O1 O' W w' ∧ InAt w' W.heap.size O' v' [(rdQ k c, qv)] ∧ AsksAt w' W.heap.size O' av [(rdA k, dv)]) := hide (fun W O1 b hM hA => poll_lv hM hA hG (by decide) hpol rfl)
  have HSt : Hid (∀ W O1 b (z : Int), RamB W (B + 1 + 1) b 2 f0 262224 O1 → z = ((5632 - c : Nat) : Int) → Calls Tryz.prog 22 #[.pointer (some ⟨b, 0, none⟩), .int .u32 z, .int .i64 1, .int .u32 7] W fun e w' => e = .returned .nilIface ∧ ∃ O', RamB w' (B + 1 + 1) b 2 (wroteF f0 (5632 - c) [7]) 262225 O' ∧ Went (B + 1 + 1) O1 O' W w') := hide (fun W O1 b z hM hz => by rw [hz]; exact store_b hM (5632 - c) 1 (by omega) (.inl rfl) (by omega) (by omega) 7 (by decide) (by decide))
  obtain ⟨f1, hf1⟩ : ∃ x, wroteF f0 (5632 - c) [7] = x := ⟨_, rfl⟩
  rw [hf1] at HSt
  obtain ⟨ra1, ra2⟩ := rd_ans f1 c k hcl (fulL bl ++ [0]) (by rw [List.length_append, fulL_len]; rfl)
  obtain ⟨s3, hs3⟩ : ∃ x, (ansV 2 f1 (rdS k c) 0 (rdL c) (fulL bl ++ [0])).2 = x := ⟨_, rfl⟩
  obtain ⟨f3, hf3⟩ : ∃ x, rdF f1 c (fulL bl ++ [0]) = x := ⟨_, rfl⟩
  have HFi : Hid (∀ W O1 b v qv Bi NF, RamB W (B + 1 + 1) b 2 f1 262225 O1 → AreasAt W → InAt W Bi O1 v [(rdQ k c, qv)] → W.ownsRow NF 5 1 (.slice (some ⟨NF, 0, none⟩) 512 512) 512 (byteV (fulL bl)) → Calls Tryz.prog 17 #[.agg ((rdS k c).c v), .pointer (some ⟨b, 0, none⟩), .int .u32 0, .bool true, .slice (some ⟨NF, 0, none⟩) 512 512] W fun e w' => ∃ v' O', e = .returned (.tuple #[.agg (s3.c v'), .nilIface]) ∧ RamB w' (B + 1 + 1) b 2 f3 262230 O' ∧ Went (B + 1 + 1) O1 O' W w' ∧ InAt w' W.heap.size O' v' []) := hide (fun W O1 b v qv Bi NF hM hA hI hD => by
    have h := finish_read (rdS k c) (rdS_ok hkl hcl) [(rdQ k c, qv)] rfl (by show 1 ≤ 90; decide) v 0 hM hA hG hI (by decide) 0 (rdQ k c) qv (by kernel_rfl) rfl (by show 0 < 2; decide) (some ⟨NF, 0, none⟩) 512 512 (fulL bl) (fulL_len bl) HFS.out hD rfl rfl (by decide)
    rw [show (rdQ k c).l = rdL c from rfl, show (rdQ k c).hd = 0 from rfl, hs3, ra1, hf3] at h
    refine h.mono ?_
    rintro e w' ⟨v', rfl, l', O', h1, h2, h3, h4⟩
    obtain rfl := map_none h1
    exact ⟨v', O', rfl, h2, h3, h4⟩)
  have HR1 : Hid (∀ W O1 b, RamB W (B + 1 + 1) b 2 f3 262230 O1 → Calls Tryz.prog 14 #[.pointer (some ⟨b, 0, none⟩), .int .u32 4096, .int .i64 (c : Nat)] W fun e w' => ∃ NA, e = .returned (.tuple #[.slice (some ⟨NA, 0, none⟩) c c, .nilIface]) ∧ CellsAt w' NA ((fulL bl ++ [0]).take c) ∧ ∃ O', RamB w' (B + 1 + 1) b 2 f3 262230 O' ∧ Went (B + 1 + 1) O1 O' W w' ∧ ¬ O' NA) := hide (fun W O1 b hM => (read_cells hM 4096 c (by omega) _ (by rw [List.length_take, List.length_append, fulL_len]; show min c 513 = c; omega) (fun j hj => by
    rw [← hf3, rdF_a f1 c hcl _ (by rw [List.length_append, fulL_len]; rfl) j hj, List.getElem?_take, if_pos hj])).mono (fun e w' h => ⟨_, h⟩))
  have HR2 : Hid (∀ W O1 b (z : Int), RamB W (B + 1 + 1) b 2 f3 262230 O1 → z = ((513 - c : Nat) : Int) → Calls Tryz.prog 14 #[.pointer (some ⟨b, 0, none⟩), .int .u32 5120, .int .i64 z] W fun e w' => ∃ NA, e = .returned (.tuple #[.slice (some ⟨NA, 0, none⟩) (513 - c) (513 - c), .nilIface]) ∧ CellsAt w' NA ((fulL bl ++ [0]).drop c) ∧ ∃ O', RamB w' (B + 1 + 1) b 2 f3 262230 O' ∧ Went (B + 1 + 1) O1 O' W w' ∧ ¬ O' NA) := hide (fun W O1 b z hM hz => by
    rw [hz]
    exact (read_cells hM 5120 (513 - c) (by omega) _ (by rw [List.length_drop, List.length_append, fulL_len]; rfl) (fun j hj => by
      rw [← hf3, rdF_b f1 c hcl _ (by rw [List.length_append, fulL_len]; rfl) j hj, List.getElem?_drop])).mono (fun e w' h => ⟨_, h⟩))
  have HFO : Hid (∀ (W : World) NF i, RowAt W NF (fulC bl i) 5 → (fulC bl i).toList = byteV (fulL bl) → W.ownsRow NF 5 1 (.slice (some ⟨NF, 0, none⟩) 512 512) 512 (byteV (fulL bl)) ∧ CellsAt W NF (fulL bl)) := hide (fun W NF i hr he => ⟨ful_own hr he (fulL_len bl), ful_cells hr he⟩)
  have HS1 : Hid (∀ y ∈ fulL bl ++ [0], y < 256) := hide (fun y hy => by
    rcases List.mem_append.1 hy with h | h
    · exact HFS.out y h
    · rw [List.mem_singleton.1 h]; decide)
  have HL1 : Hid (((fulL bl ++ [0]).take c).length = c) := hide (by rw [List.length_take, List.length_append, fulL_len]; show min c 513 = c; omega)
  have HL2 : Hid (((fulL bl ++ [0]).drop c).length = 513 - c) := hide (by rw [List.length_drop, List.length_append, fulL_len]; rfl)
  have HL0 : Hid ((fulL bl).length = 512) := hide (fulL_len bl)
  have HTD : Hid ((fulL bl ++ [0]).take c ++ (fulL bl ++ [0]).drop c = fulL bl ++ [0]) := hide (List.take_append_drop c _)
  have hc513 : c + (513 - c) = 513 := by omega
  have HCv : Hid (∀ (W : World) N cap, BytesAt W W.heap.size (some ⟨N, 0, none⟩) (fulL bl ++ [0]) → (convert 37 9 (.slice (some ⟨N, 0, none⟩) 513 cap)).run Tryz.prog W = .ok (.string (txtR (fulL bl ++ [0]))) W) := hide (fun W N cap h => by
    have h := conv_in h (Below.refl _ _) cap
    have e : (fulL bl ++ [0]).length = 513 := by rw [List.length_append, fulL_len]; rfl
    rw [e] at h
    exact h)
  obtain ⟨tx, htx⟩ : ∃ x, txtR (fulL bl ++ [0]) = x := ⟨_, rfl⟩
  rw [htx] at HCv
  clear hA hBy hpol hf0 hf1 hf3 hs3 ra1 ra2 htx
  go_enter Tryz.func6, Tryz.ntmps6
  go_wp2_with (first | ((with_reducible refine bs_rdp c k B ?_ _ _ _ _ _ _ _ _ _ _ _ ?_ ?_ ?_ ?_ ?_ ?_ ?_ ?_ ?_ ?_ ?_ ?_); exact hB; exact rfl; exact rfl; exact rfl; exact rfl; exact rfl; exact rfl; exact rfl; exact rfl; exact rfl; exact rfl; exact rfl; intro W hq hb hz) | (go_at_call 8; (with_reducible refine (HBo.out _ hz.out hq).mono ?_); rintro e W1 ⟨b, O, r, rfl, hM, hbc⟩; replace hb := hb.trans (hbc.mono (by omega)); (have hA := HA0.out.belR hG0 hb); obtain ⟨NX, hNX0⟩ : ∃ n, W1.heap.size = n := ⟨_, rfl⟩; have hNX := hide hNX0; have hNB : B + 1 + 1 ≤ NX := hNX0 ▸ hM.base; have hnx : ¬ O NX := (fun e => absurd (hM.lt _ e) (by omega)); clear hNX0 hbc hq hz) | ((with_reducible refine al_Rz NX ?_ ?_); exact hNX.out; intro W hx hb' hz2; have hbc : Below W1.heap.size W1 W := (by rw [hNX.out]; exact hb'); replace hb := hb.trans (hb'.mono (by omega)); replace hM := hM.bl hbc; replace hA := hA.bl hbc; clear hb' hbc hNX) | ((with_reducible refine st_R NX _ r 8192 2 hx ?_ ?_ ?_ ?_); exact rfl; exact rfl; exact rfl; intro W hnew hoo; (have hsz2 : W.heap.size = NX + 1 := by rw [hoo.size]; exact hz2.out); replace hM := hM.only hoo hnx; replace hA := hA.onlyR hoo (by omega); replace hb := hoo.bel _ _ (by omega) hb; clear hnew hoo hx hnx hz2) | ((with_reducible refine mk_r 512 (by decide) (NX + 1) ?_ ?_ ?_ ?_); exact hsz2; exact rfl; exact rfl; intro W hf hb' hz; rw [fulC_made bl] at hf; (have hbc := hsz2.symm ▸ hb'); (have hnF : ¬ O (NX + 1) := fun e => absurd (hM.lt _ e) (by omega)); replace hM := hM.bl hbc; replace hb := hb.trans (hb'.mono (by omega)); clear hb' hbc hsz2 hA))
  go_loopw [12] (fun iv wr => ∃ i : Nat, i ≤ bl.length ∧ i ≤ 512 ∧ iv = .int .i64 (i : Nat) ∧ RowAt wr (NX + 1) (fulC bl i) 5 ∧ wr.heap.size = (NX + 1) + 1 ∧ Below B w wr ∧ RamB wr (B + 1 + 1) b 2 f0 80 O) (fun iv _ => 512 - (intOf iv).toNat)
  case atStart => exact ⟨0, Nat.zero_le _, Nat.zero_le _, rfl, hf, hz.out, hb, hM⟩
  case round =>
    clear hf hz hb hM
    obtain ⟨i, hi1, hi2, rfl, hf, hz, hb, hM⟩ := hrel
    by_cases hlt : i < bl.length ∧ i < 512
    · obtain ⟨hlt1, hlt2⟩ := hlt
      have l1 : (i : Int) < (bl.length : Int) := by omega
      have l2 : (i : Int) < 512 := by omega
      obtain ⟨db, dof, rfl, hdb, hdc⟩ := HBy.out.lies (by omega)
      have hcw : wr.cell? ⟨db, dof + i, none⟩ = some (.int .u8 (bl[i] : Nat)) := (hb.cell (p := ⟨db, dof + i, none⟩) hdb).trans (hdc i hlt1)
      have HST := hide (fulC_step bl i hlt2 bl[i] (List.getElem?_eq_getElem hlt1))
      have hsz : i < (fulC bl i).size := by rw [fulC_size]; exact hlt2
      obtain ⟨x0, hx0⟩ : ∃ x, bl[i] = x := ⟨_, rfl⟩
      rw [hx0] at hcw HST
      clear hdc hx0
      generalize bl.length = L at *
      go_wp2_with (first | ((with_reducible refine st_ful (NX + 1) i x0 _ _ hf hsz HST.out ?_ ?_ ?_); (first | exact rfl | (simp; done)); exact rfl; intro W hnew ho; have hzn : W.heap.size = (NX + 1) + 1 := (by rw [ho.size]; exact hz); replace hb := ho.bel _ _ (by omega) hb; replace hM := hM.only ho hnF; clear hf hz; have hf := hnew; have hz := hzn; clear hnew ho hzn))
      go_roundw
      case rel => exact ⟨i + 1, hlt1, hlt2, by go_num, hf, hz, hb, hM⟩
      case measure => simp [intOf]; omega
    · have HFE : Hid ((fulC bl i).toList = byteV (fulL bl)) := hide (fulC_end bl i (by omega))
      have hcase : (¬ i < bl.length) ∨ (i < bl.length ∧ i = 512) := by omega
      clear hlt
      have hA := HA0.out.belR hG0 hb
      have hFB : B + 1 + 1 ≤ NX + 1 := by omega
      have hnf := hnF
      clear hnF hz
      rcases hcase with hcs | ⟨hcs1, hcs2⟩
      · have t1 : decide ((i : Int) < (bl.length : Int)) = false := by simp; omega
        have t1n : decide (i < bl.length) = false := by simp; omega
        go_wp2_with (first | (go_at_call 20; (with_reducible refine (HLi.out _).mono ?_); rintro e W ⟨rfl, hbc⟩; replace hb := hb.trans (hbc.mono (by have := hM.base; omega)); replace hM := hM.bl hbc; replace hA := hA.bl hbc; replace hf := hf.bl hbc; clear hbc) | (go_at_call 12; (with_reducible refine (HPo.out _ _ _ hM hA).mono ?_); rintro e W2 ⟨v1, av, qv, dv, O2, rfl, hM2, hW2, hI, hK⟩; (have hnn := hW2.no hf.lt hnf); replace hf := hW2.row hf hnf; replace hb := hb.trans (hW2.below.mono (by omega)); replace hA := hA.wentR hG hW2; clear hM hnf; have hM := hM2; have hnf := hnn; clear hM2 hW2 hnn; (obtain ⟨ga, ca, cur, rfl, hga, hgo, hgr, k0, k1, k2, k3, k4⟩ := asks_one hK); (have hv1o := own_one hI.row); obtain ⟨NR, hNR0⟩ : ∃ n, W2.heap.size = n := ⟨_, rfl⟩; have hNR := hide hNR0; have hRB : B + 1 + 1 ≤ NR := hNR0 ▸ hM.base; (have hgl : ga < NR := hNR0 ▸ hgr.lt); (have hfl : NX + 1 < NR := hNR0 ▸ hf.lt); (have hil : ∀ g, v1.ownBlock = some g → g < NR := fun g e => hNR0 ▸ (hI.row.lt g e).2); (have hils : ∀ x ∈ [(rdQ k c, qv)], ∀ g, x.2.ownBlock = some g → g < NR := fun x hx g e => hNR0 ▸ ((hI.own x hx).lt g e).2); have hnr : ¬ O2 NR := (fun e => absurd (hM.lt _ e) (by omega)); clear hNR0 hK hga) | ((with_reducible refine al_bk NR ?_ ?_); exact hNR.out; intro W hr hb' hz2; have hbc : Below W2.heap.size W2 W := (by rw [hNR.out]; exact hb'); replace hb := hb.trans (hb'.mono (by omega)); replace hM := hM.bl hbc; replace hA := hA.bl hbc; replace hf := hf.bl hbc; replace hI := hI.bl hbc; replace hgr := hgr.bl hbc; clear hb' hbc hz2 hNR) | ((with_reducible refine st_bk NR _ _ (rdS k c) v1 hv1o hr ?_ ?_ ?_); exact rfl; exact rfl; intro W hnew hoo; replace hM := hM.only hoo hnr; replace hA := hA.onlyR hoo (by omega); replace hb := hoo.bel _ _ (by omega) hb; replace hf := hf.only hoo (by omega); replace hI := hI.only hoo (fun e => absurd (hil _ e) (by omega)) (fun x hx e => absurd (hils x hx _ e) (by omega)); replace hgr := hgr.only hoo (by omega); replace hr := hnew; clear hnew hoo; (obtain ⟨va1, vc1, rfl⟩ := in_one hI)) | ((with_reducible refine ldc_u32 ga 2 _ cur _ hgr k2 ?_ ?_ ?_); exact rfl; exact rfl) | (go_at_call 22; (with_reducible refine (HSt.out _ _ _ _ hM ?_).mono ?_); (first | omega | (simp; omega)); rintro e W2 ⟨rfl, O3, hM2, hW2⟩; (have hnn := hW2.no hf.lt hnf); replace hf := hW2.row hf hnf; replace hb := hb.trans (hW2.below.mono (by omega)); replace hA := hA.wentR hG hW2; (have hnr3 := hW2.no hr.lt hnr); (have hgo3 := hW2.no hgr.lt hgo); replace hr := hW2.row hr hnr; replace hgr := hW2.row hgr hgo; replace hI := hI.went hW2; clear hnr hgo; have hnr := hnr3; have hgo := hgo3; clear hnr3 hgo3; clear hM hnf; have hM := hM2; have hnf := hnn; clear hM2 hW2 hnn))
        refine wp_region_held_drew (S := (fun V => RowAt V NR ((rdS k c).c (.slice va1 1 vc1)) 53 ∧ RowAt V ga cur 81)) (by kernel_rfl) ?_ (fun hHeld => ?_)
        · exact ⟨hr.dr, hgr.dr⟩
        replace hM := hM.dr
        replace hA := hA.drR
        replace hb := hb.drew
        replace hI := hI.dr
        replace hf := hf.dr
        have hNl : NR < (World.drew _).heap.size := hr.lt
        generalize World.drew _ = V at hHeld hM hA hb hI hNl hf ⊢
        clear hr hgr
        refine tkO 0 (.agg ((rdS k c).c (.slice va1 1 vc1))) (by simp only [gT, gZ]; rfl) (y_bk NR (rdS k c) (.slice va1 1 vc1) (fun V hV => hV.1) rfl rfl) ?_
        simp only [Act.put, pA, pZ, pS]
        refine tkO 1 (.pointer (some ⟨b, 0, none⟩)) (by simp only [gT, gZ, gS]; rfl) (puO (by (intro w hSw; (try dsimp only at hSw); go_simp))) ?_
        simp only [Act.put, pA, pZ, pS]
        refine tkO 2 (.slice (some ⟨ga, 0, none⟩) 1 ca) (by simp only [gT, gZ, gS]; rfl) (puO (by (intro w hSw; (try dsimp only at hSw); go_simp))) ?_
        simp only [Act.put, pA, pZ, pS]
        refine tkO 3 (.pointer (some ⟨ga, 0, none⟩)) (by simp only [gT, gZ, gS]; rfl) (puO (by (intro w hSw; (try dsimp only at hSw); go_simp))) ?_
        simp only [Act.put, pA, pZ, pS]
        refine tkO 4 (.pointer (some ⟨ga, 0, none⟩)) (by simp only [gT, gZ, gS]; rfl) (puO (by (intro w hSw; (try dsimp only at hSw); go_simp))) ?_
        simp only [Act.put, pA, pZ, pS]
        refine tkO 5 (.int .u32 0) (by simp only [gT, gZ, gS]; rfl) (y_cellg ga 0 _ (fun V hV => (hV.2.cell 0).trans k0) _ Tryz.underlying22 rfl rfl (by rfl)) ?_
        simp only [Act.put, pA, pZ, pS]
        refine tkO 6 (.slice (some ⟨NX + 1, 0, none⟩) 512 512) (by simp only [gT, gZ, gS]; rfl) (puO (by (intro w hSw; (try dsimp only at hSw); go_simp))) ?_
        simp only [Act.put, pA, pZ, pS]
        refine wpAnyH_ready (rs := [7, 11]) (by kernel_rfl) (by simp) ?_
        refine AllReadyH.cons (o := ?oip8) ?hip8 (fun K hK => ?bp8) (AllReadyH.cons (o := ?oip9) ?hip9 (fun K hK => ?bp9) AllReadyH.nil)
        case hip8 => (simp only [List.getElem?_toArray, List.getElem?_cons_zero, List.getElem?_cons_succ]; rfl)
        case hip9 => (simp only [List.getElem?_toArray, List.getElem?_cons_zero, List.getElem?_cons_succ]; rfl)
        case bp8 =>
         rw [if_pos (by rfl)]
         go_simp
         (with_reducible refine (HFi.out _ _ _ _ _ _ _ hM hA hI (HFO.out _ _ _ hf HFE.out).1).mono ?_)
         rintro e V4 ⟨v2, O4, rfl, hM3, hW3, hI2⟩
         have hH2 := hide (And.intro (hW3.row hHeld.1 hnr) (hW3.row hHeld.2 hgo))
         (have hv2o := own_one hI2.row)
         (have hnf3 := hW3.no hf.lt hnf)
         replace hf := hW3.row hf hnf
         clear hnf
         (have hnf := hnf3)
         clear hnf3
         replace hb := hb.trans (hW3.below.mono (by omega))
         replace hA := hA.wentR hG hW3
         replace hNl := Nat.lt_of_lt_of_le hNl hW3.size
         (have hBl : B + 1 + 1 ≤ V4.heap.size := by omega)
         (obtain ⟨va2, vc2, rfl⟩ := in_none hI2)
         clear hM hI hW3 hHeld hI2
         go_simp
         refine hK.out _ _ ?_ (fun hHeld => ?_)
         · exact hH2.out
         clear hK K
         clear hH2
         refine tkO 8 (.tuple #[.agg (s3.c (.slice va2 0 vc2)), .nilIface]) (by simp only [gT, gZ, gS]; rfl) (puO (by (intro w hSw; (try dsimp only at hSw); go_simp))) ?_
         simp only [Act.put, pA, pZ, pS]
         refine tkO 9 (.agg (s3.c (.slice va2 0 vc2))) (by simp only [gT, gZ, gS]; rfl) (puO (by (intro w hSw; (try dsimp only at hSw); go_simp))) ?_
         simp only [Act.put, pA, pZ, pS]
         refine tkO 10 (.nilIface) (by simp only [gT, gZ, gS]; rfl) (puO (by (intro w hSw; (try dsimp only at hSw); go_simp))) ?_
         simp only [Act.put, pA, pZ, pS]
         refine skO 11 (by simp only [gT, gZ, gS]; rfl) (fun K hK => ?_)
         rw [if_pos (by rfl)]
         (obtain ⟨NT, hNT0⟩ : ∃ n, V4.heap.size = n := ⟨_, rfl⟩)
         (with_reducible refine s_alc NT ?_ (zeroBk.c nilS) zero_bk ?_)
         · exact hNT0
         intro V3 ht hbc hz
         rw [← hNT0] at hbc
         (have hNRT : NR < NT := hNT0 ▸ hNl)
         (have hgT : ga < NT := hNT0 ▸ hHeld.2.lt)
         (have hnt : ¬ O4 NT := fun e => absurd (hM3.lt _ e) (by omega))
         clear hz hNT0
         have hH2 := hide (And.intro (hHeld.1.bl hbc) (hHeld.2.bl hbc))
         replace hb := hb.trans (hbc.mono (by omega))
         replace hM3 := hM3.bl hbc
         replace hA := hA.bl hbc
         replace hf := hf.bl hbc
         replace hNl := Nat.lt_of_lt_of_le hNl hbc.size
         clear hHeld hbc
         refine hK.out _ _ ?_ (fun hHeld => ?_)
         · exact hH2.out
         clear hK K
         clear hH2
         refine skO 12 (by simp only [gT, gZ, gS]; rfl) (fun K hK => ?_)
         rw [if_pos (by rfl)]
         (with_reducible refine s_bk NT _ _ s3 (.slice va2 0 vc2) hv2o ht ?_ ?_ ?_)
         · exact rfl
         · exact rfl
         intro V5 hnew hoo
         have hH2 := hide (And.intro (hHeld.1.only hoo (by omega)) (hHeld.2.only hoo (by omega)))
         replace hM3 := hM3.only hoo hnt
         replace hA := hA.onlyR hoo (by omega)
         replace hb := hoo.bel _ _ (by omega) hb
         replace hf := hf.only hoo (by omega)
         clear ht
         (have ht := hnew)
         clear hHeld hoo hnew
         refine hK.out _ _ ?_ (fun hHeld => ?_)
         · exact hH2.out
         clear hK K
         clear hH2
         refine tkO 13 (.nilIface) (by simp only [gT, gZ, gS]; rfl) (puO (by (intro w hSw; (try dsimp only at hSw); go_simp))) ?_
         simp only [Act.put, pA, pZ, pS]
         refine wpAnyH_done (by kernel_rfl) ?_ _
         go_simp
         go_wp2_with (first | (go_at_call 14; (with_reducible refine (HR1.out _ _ _ hM3).mono ?_); rintro e W6 ⟨NA, rfl, hCa, O6, hM6, hW6, hnA⟩; (have hnf3 := hW6.no hf.lt hnf); replace hf := hW6.row hf hnf; clear hnf; (have hnf := hnf3); clear hnf3; (have hnt3 := hW6.no ht.lt hnt); replace ht := hW6.row ht hnt; clear hnt; (have hnt := hnt3); clear hnt3; replace hb := hb.trans (hW6.below.mono (by omega)); replace hA := hA.wentR hG hW6; clear hM3; (have hM3 := hM6); clear hM6 hW6) | (go_at_call 14; (with_reducible refine (HR2.out _ _ _ _ hM3 ?_).mono ?_); (first | omega | (simp; omega)); rintro e W7 ⟨NC, rfl, hCb, O7, hM6, hW6, hnB⟩; replace hCa := hCa.went hW6 hnA; (have hnf3 := hW6.no hf.lt hnf); replace hf := hW6.row hf hnf; clear hnf; (have hnf := hnf3); clear hnf3; (have hnt3 := hW6.no ht.lt hnt); replace ht := hW6.row ht hnt; clear hnt; (have hnt := hnt3); clear hnt3; replace hb := hb.trans (hW6.below.mono (by omega)); replace hA := hA.wentR hG hW6; clear hM3; (have hM3 := hM6); clear hM6 hW6) | ((with_reducible refine ld_bin NT s3 _ _ ht ?_ ?_ ?_); exact rfl; exact rfl))
         have hCf := (HFO.out _ _ _ hf HFE.out).2
         refine wp_region_held_drew (S := (fun V => B < V.heap.size)) (by kernel_rfl) ?_ (fun hHeld => ?_)
         · exact (show B < (World.drew _).heap.size from Nat.lt_of_lt_of_le (by omega) hM3.base)
         replace hb := hb.drew
         replace hA := hA.drR
         replace hCa := hCa.dr
         replace hCb := hCb.dr
         replace hCf := hCf.dr
         have hBB : B + 1 + 1 ≤ (World.drew _).heap.size := hM3.base
         clear hM3 ht hf hnt hnf
         generalize World.drew _ = V at hHeld hb hA hCa hCb hCf hBB ⊢
         refine tkO 0 (.slice (some ⟨NA, 0, none⟩) c c) (by simp only [gT, gZ]; rfl) (puO (by (intro w hSw; (try dsimp only at hSw); go_simp))) ?_
         simp only [Act.put, pA, pZ, pS]
         refine tkO 1 (.slice (some ⟨NC, 0, none⟩) (513 - c) (513 - c)) (by simp only [gT, gZ, gS]; rfl) (puO (by (intro w hSw; (try dsimp only at hSw); go_simp))) ?_
         simp only [Act.put, pA, pZ, pS]
         refine tkO 4 (.slice (some ⟨NX + 1, 0, none⟩) 512 512) (by simp only [gT, gZ, gS]; rfl) (puO (by (intro w hSw; (try dsimp only at hSw); go_simp))) ?_
         simp only [Act.put, pA, pZ, pS]
         refine wpAnyH_ready (rs := [2, 5]) (by kernel_rfl) (by simp) ?_
         refine AllReadyH.cons (o := ?oip19) ?hip19 (fun K hK => ?bp19) (AllReadyH.cons (o := ?oip20) ?hip20 (fun K hK => ?bp20) (AllReadyH.nil))
         case hip19 => (simp only [List.getElem?_toArray, List.getElem?_cons_zero, List.getElem?_cons_succ]; rfl)
         case hip20 => (simp only [List.getElem?_toArray, List.getElem?_cons_zero, List.getElem?_cons_succ]; rfl)
         case bp19 =>
          rw [if_pos (by rfl)]
          (with_reducible refine s_appg NA c NC (513 - c) (513 - c) 513 hc513 _ _ (fulL bl ++ [0]) hCa hCb HL1.out HL2.out (by omega) (by omega) HS1.out HTD.out ?_ ?_ ?_)
          · exact rfl
          · exact rfl
          intro VA N3 cap3 hC1 hbc
          have hH2 := hide (show B < VA.heap.size from Nat.lt_of_lt_of_le hHeld hbc.size)
          replace hb := hb.trans (hbc.mono (by omega))
          replace hA := hA.bl hbc
          replace hCa := hCa.bl hbc
          replace hCb := hCb.bl hbc
          replace hCf := hCf.bl hbc
          replace hBB := Nat.le_trans hBB hbc.size
          (try replace hC2 := BytesAt.bl hC2 hbc)
          (try replace hby := hby.bl hbc)
          clear hHeld hbc
          refine hK.out _ _ ?_ (fun hHeld => ?_)
          · exact hH2.out
          clear hK K
          clear hH2
          simp only [Act.put, pA, pZ, pS]
          refine wpAnyH_ready (rs := [3, 5]) (by kernel_rfl) (by simp) ?_
          refine AllReadyH.cons (o := ?oip21) ?hip21 (fun K hK => ?bp21) (AllReadyH.cons (o := ?oip22) ?hip22 (fun K hK => ?bp22) (AllReadyH.nil))
          case hip21 => (simp only [List.getElem?_toArray, List.getElem?_cons_zero, List.getElem?_cons_succ]; rfl)
          case hip22 => (simp only [List.getElem?_toArray, List.getElem?_cons_zero, List.getElem?_cons_succ]; rfl)
          case bp21 =>
           rw [if_pos (by rfl)]
           (with_reducible refine s_conv (.slice (some ⟨N3, 0, none⟩) 513 cap3) (.string tx) (HCv.out _ N3 cap3 hC1) ?_ ?_)
           · exact rfl
           have hH2 := hide hHeld
           clear hHeld
           refine hK.out _ _ ?_ (fun hHeld => ?_)
           · exact hH2.out
           clear hK K
           clear hH2
           simp only [Act.put, pA, pZ, pS]
           refine skO 5 (by simp only [gT, gZ, gS]; rfl) (fun K hK => ?_)
           rw [if_pos (by rfl)]
           (obtain ⟨NB, hNB0⟩ : ∃ n, VA.heap.size = n := ⟨_, rfl⟩)
           (with_reducible refine s_bsr 37 5 1 Tryz.underlying37 #[.int .u8 (0 : Nat)] NB ?_ [(0, .int .u8 (0 : Nat))] ?_ (bs_byte 0) ?_)
           · exact hNB0
           · first | rfl | (simp; done) | kernel_rfl
           intro VB hby hbc hz3
           rw [← hNB0] at hbc
           clear hNB0 hz3
           have hH2 := hide (show B < VB.heap.size from Nat.lt_of_lt_of_le hHeld hbc.size)
           replace hb := hb.trans (hbc.mono (by omega))
           replace hA := hA.bl hbc
           replace hCa := hCa.bl hbc
           replace hCb := hCb.bl hbc
           replace hCf := hCf.bl hbc
           replace hBB := Nat.le_trans hBB hbc.size
           (try replace hC1 := BytesAt.bl hC1 hbc)
           (try replace hC2 := BytesAt.bl hC2 hbc)
           clear hHeld hbc
           refine hK.out _ _ ?_ (fun hHeld => ?_)
           · exact hH2.out
           clear hK K
           clear hH2
           simp only [Act.put, pA, pZ, pS]
           refine skO 6 (by simp only [gT, gZ, gS]; rfl) (fun K hK => ?_)
           rw [if_pos (by rfl)]
           (have hCn : CellsAt _ NB [0] := ful_cells hby rfl)
           (with_reducible refine s_appg (NX + 1) 512 NB 1 1 513 rfl _ _ (fulL bl ++ [0]) hCf hCn HL0.out rfl (by decide) (by decide) HS1.out rfl ?_ ?_ ?_)
           · exact rfl
           · exact rfl
           intro VC N5 cap5 hC2 hbc
           clear hCn
           have hH2 := hide (show B < VC.heap.size from Nat.lt_of_lt_of_le hHeld hbc.size)
           replace hb := hb.trans (hbc.mono (by omega))
           replace hA := hA.bl hbc
           replace hCa := hCa.bl hbc
           replace hCb := hCb.bl hbc
           replace hCf := hCf.bl hbc
           replace hBB := Nat.le_trans hBB hbc.size
           (try replace hC1 := BytesAt.bl hC1 hbc)
           (try replace hby := hby.bl hbc)
           clear hHeld hbc
           refine hK.out _ _ ?_ (fun hHeld => ?_)
           · exact hH2.out
           clear hK K
           clear hH2
           simp only [Act.put, pA, pZ, pS]
           refine skO 7 (by simp only [gT, gZ, gS]; rfl) (fun K hK => ?_)
           rw [if_pos (by rfl)]
           (with_reducible refine s_conv (.slice (some ⟨N5, 0, none⟩) 513 cap5) (.string tx) (HCv.out _ N5 cap5 hC2) ?_ ?_)
           · exact rfl
           have hH2 := hide hHeld
           clear hHeld
           refine hK.out _ _ ?_ (fun hHeld => ?_)
           · exact hH2.out
           clear hK K
           clear hH2
           simp only [Act.put, pA, pZ, pS]
           refine tkO 8 (.bool true) (by simp only [gT, gZ, gS]; rfl) (puO (by (intro w hSw; (try dsimp only at hSw); go_simp))) ?_
           simp only [Act.put, pA, pZ, pS]
           refine tkO 9 (.bool true) (by simp only [gT, gZ, gS]; rfl) (puO (by (intro w hSw; (try dsimp only at hSw); go_simp))) ?_
           simp only [Act.put, pA, pZ, pS]
           refine skO 10 (by simp only [gT, gZ, gS]; rfl) (fun K hK => ?_)
           rw [if_pos (by rfl)]
           go_simp
           (with_reducible refine (HSu.out _ hA).mono ?_)
           rintro e V9 ⟨rfl, hbc⟩
           have hH2 := hide (show B < V9.heap.size from Nat.lt_of_lt_of_le hHeld hbc.size)
           replace hb := hb.trans (hbc.mono (by omega))
           clear hHeld hbc
           go_simp
           refine hK.out _ _ ?_ (fun hHeld => ?_)
           · exact hH2.out
           clear hK K
           clear hH2
           refine tkO 11 (.bool true) (by simp only [gT, gZ, gS]; rfl) (puO (by (intro w hSw; (try dsimp only at hSw); go_simp))) ?_
           simp only [Act.put, pA, pZ, pS]
           refine tkO 12 (.bool true) (by simp only [gT, gZ, gS]; rfl) (puO (by (intro w hSw; (try dsimp only at hSw); go_simp))) ?_
           refine wpAnyH_done (by kernel_rfl) ?_ _
           go_simp
           go_wp2
           go_ret
           exact ⟨rfl, hb⟩
          case bp22 =>
           rw [if_pos (by rfl)]
           (obtain ⟨NB, hNB0⟩ : ∃ n, VA.heap.size = n := ⟨_, rfl⟩)
           (with_reducible refine s_bsr 37 5 1 Tryz.underlying37 #[.int .u8 (0 : Nat)] NB ?_ [(0, .int .u8 (0 : Nat))] ?_ (bs_byte 0) ?_)
           · exact hNB0
           · first | rfl | (simp; done) | kernel_rfl
           intro VB hby hbc hz3
           rw [← hNB0] at hbc
           clear hNB0 hz3
           have hH2 := hide (show B < VB.heap.size from Nat.lt_of_lt_of_le hHeld hbc.size)
           replace hb := hb.trans (hbc.mono (by omega))
           replace hA := hA.bl hbc
           replace hCa := hCa.bl hbc
           replace hCb := hCb.bl hbc
           replace hCf := hCf.bl hbc
           replace hBB := Nat.le_trans hBB hbc.size
           (try replace hC1 := BytesAt.bl hC1 hbc)
           (try replace hC2 := BytesAt.bl hC2 hbc)
           clear hHeld hbc
           refine hK.out _ _ ?_ (fun hHeld => ?_)
           · exact hH2.out
           clear hK K
           clear hH2
           simp only [Act.put, pA, pZ, pS]
           refine wpAnyH_ready (rs := [3, 6]) (by kernel_rfl) (by simp) ?_
           refine AllReadyH.cons (o := ?oip31) ?hip31 (fun K hK => ?bp31) (AllReadyH.cons (o := ?oip32) ?hip32 (fun K hK => ?bp32) (AllReadyH.nil))
           case hip31 => (simp only [List.getElem?_toArray, List.getElem?_cons_zero, List.getElem?_cons_succ]; rfl)
           case hip32 => (simp only [List.getElem?_toArray, List.getElem?_cons_zero, List.getElem?_cons_succ]; rfl)
           case bp31 =>
            rw [if_pos (by rfl)]
            (with_reducible refine s_conv (.slice (some ⟨N3, 0, none⟩) 513 cap3) (.string tx) (HCv.out _ N3 cap3 hC1) ?_ ?_)
            · exact rfl
            have hH2 := hide hHeld
            clear hHeld
            refine hK.out _ _ ?_ (fun hHeld => ?_)
            · exact hH2.out
            clear hK K
            clear hH2
            simp only [Act.put, pA, pZ, pS]
            refine skO 6 (by simp only [gT, gZ, gS]; rfl) (fun K hK => ?_)
            rw [if_pos (by rfl)]
            (have hCn : CellsAt _ NB [0] := ful_cells hby rfl)
            (with_reducible refine s_appg (NX + 1) 512 NB 1 1 513 rfl _ _ (fulL bl ++ [0]) hCf hCn HL0.out rfl (by decide) (by decide) HS1.out rfl ?_ ?_ ?_)
            · exact rfl
            · exact rfl
            intro VC N5 cap5 hC2 hbc
            clear hCn
            have hH2 := hide (show B < VC.heap.size from Nat.lt_of_lt_of_le hHeld hbc.size)
            replace hb := hb.trans (hbc.mono (by omega))
            replace hA := hA.bl hbc
            replace hCa := hCa.bl hbc
            replace hCb := hCb.bl hbc
            replace hCf := hCf.bl hbc
            replace hBB := Nat.le_trans hBB hbc.size
            (try replace hC1 := BytesAt.bl hC1 hbc)
            (try replace hby := hby.bl hbc)
            clear hHeld hbc
            refine hK.out _ _ ?_ (fun hHeld => ?_)
            · exact hH2.out
            clear hK K
            clear hH2
            simp only [Act.put, pA, pZ, pS]
            refine skO 7 (by simp only [gT, gZ, gS]; rfl) (fun K hK => ?_)
            rw [if_pos (by rfl)]
            (with_reducible refine s_conv (.slice (some ⟨N5, 0, none⟩) 513 cap5) (.string tx) (HCv.out _ N5 cap5 hC2) ?_ ?_)
            · exact rfl
            have hH2 := hide hHeld
            clear hHeld
            refine hK.out _ _ ?_ (fun hHeld => ?_)
            · exact hH2.out
            clear hK K
            clear hH2
            simp only [Act.put, pA, pZ, pS]
            refine tkO 8 (.bool true) (by simp only [gT, gZ, gS]; rfl) (puO (by (intro w hSw; (try dsimp only at hSw); go_simp))) ?_
            simp only [Act.put, pA, pZ, pS]
            refine tkO 9 (.bool true) (by simp only [gT, gZ, gS]; rfl) (puO (by (intro w hSw; (try dsimp only at hSw); go_simp))) ?_
            simp only [Act.put, pA, pZ, pS]
            refine skO 10 (by simp only [gT, gZ, gS]; rfl) (fun K hK => ?_)
            rw [if_pos (by rfl)]
            go_simp
            (with_reducible refine (HSu.out _ hA).mono ?_)
            rintro e V9 ⟨rfl, hbc⟩
            have hH2 := hide (show B < V9.heap.size from Nat.lt_of_lt_of_le hHeld hbc.size)
            replace hb := hb.trans (hbc.mono (by omega))
            clear hHeld hbc
            go_simp
            refine hK.out _ _ ?_ (fun hHeld => ?_)
            · exact hH2.out
            clear hK K
            clear hH2
            refine tkO 11 (.bool true) (by simp only [gT, gZ, gS]; rfl) (puO (by (intro w hSw; (try dsimp only at hSw); go_simp))) ?_
            simp only [Act.put, pA, pZ, pS]
            refine tkO 12 (.bool true) (by simp only [gT, gZ, gS]; rfl) (puO (by (intro w hSw; (try dsimp only at hSw); go_simp))) ?_
            refine wpAnyH_done (by kernel_rfl) ?_ _
            go_simp
            go_wp2
            go_ret
            exact ⟨rfl, hb⟩
           case bp32 =>
            rw [if_pos (by rfl)]
            (have hCn : CellsAt _ NB [0] := ful_cells hby rfl)
            (with_reducible refine s_appg (NX + 1) 512 NB 1 1 513 rfl _ _ (fulL bl ++ [0]) hCf hCn HL0.out rfl (by decide) (by decide) HS1.out rfl ?_ ?_ ?_)
            · exact rfl
            · exact rfl
            intro VC N5 cap5 hC2 hbc
            clear hCn
            have hH2 := hide (show B < VC.heap.size from Nat.lt_of_lt_of_le hHeld hbc.size)
            replace hb := hb.trans (hbc.mono (by omega))
            replace hA := hA.bl hbc
            replace hCa := hCa.bl hbc
            replace hCb := hCb.bl hbc
            replace hCf := hCf.bl hbc
            replace hBB := Nat.le_trans hBB hbc.size
            (try replace hC1 := BytesAt.bl hC1 hbc)
            (try replace hby := hby.bl hbc)
            clear hHeld hbc
            refine hK.out _ _ ?_ (fun hHeld => ?_)
            · exact hH2.out
            clear hK K
            clear hH2
            simp only [Act.put, pA, pZ, pS]
            refine wpAnyH_ready (rs := [3, 7]) (by kernel_rfl) (by simp) ?_
            refine AllReadyH.cons (o := ?oip40) ?hip40 (fun K hK => ?bp40) (AllReadyH.cons (o := ?oip41) ?hip41 (fun K hK => ?bp41) (AllReadyH.nil))
            case hip40 => (simp only [List.getElem?_toArray, List.getElem?_cons_zero, List.getElem?_cons_succ]; rfl)
            case hip41 => (simp only [List.getElem?_toArray, List.getElem?_cons_zero, List.getElem?_cons_succ]; rfl)
            case bp40 =>
             rw [if_pos (by rfl)]
             (with_reducible refine s_conv (.slice (some ⟨N3, 0, none⟩) 513 cap3) (.string tx) (HCv.out _ N3 cap3 hC1) ?_ ?_)
             · exact rfl
             have hH2 := hide hHeld
             clear hHeld
             refine hK.out _ _ ?_ (fun hHeld => ?_)
             · exact hH2.out
             clear hK K
             clear hH2
             simp only [Act.put, pA, pZ, pS]
             refine skO 7 (by simp only [gT, gZ, gS]; rfl) (fun K hK => ?_)
             rw [if_pos (by rfl)]
             (with_reducible refine s_conv (.slice (some ⟨N5, 0, none⟩) 513 cap5) (.string tx) (HCv.out _ N5 cap5 hC2) ?_ ?_)
             · exact rfl
             have hH2 := hide hHeld
             clear hHeld
             refine hK.out _ _ ?_ (fun hHeld => ?_)
             · exact hH2.out
             clear hK K
             clear hH2
             simp only [Act.put, pA, pZ, pS]
             refine tkO 8 (.bool true) (by simp only [gT, gZ, gS]; rfl) (puO (by (intro w hSw; (try dsimp only at hSw); go_simp))) ?_
             simp only [Act.put, pA, pZ, pS]
             refine tkO 9 (.bool true) (by simp only [gT, gZ, gS]; rfl) (puO (by (intro w hSw; (try dsimp only at hSw); go_simp))) ?_
             simp only [Act.put, pA, pZ, pS]
             refine skO 10 (by simp only [gT, gZ, gS]; rfl) (fun K hK => ?_)
             rw [if_pos (by rfl)]
             go_simp
             (with_reducible refine (HSu.out _ hA).mono ?_)
             rintro e V9 ⟨rfl, hbc⟩
             have hH2 := hide (show B < V9.heap.size from Nat.lt_of_lt_of_le hHeld hbc.size)
             replace hb := hb.trans (hbc.mono (by omega))
             clear hHeld hbc
             go_simp
             refine hK.out _ _ ?_ (fun hHeld => ?_)
             · exact hH2.out
             clear hK K
             clear hH2
             refine tkO 11 (.bool true) (by simp only [gT, gZ, gS]; rfl) (puO (by (intro w hSw; (try dsimp only at hSw); go_simp))) ?_
             simp only [Act.put, pA, pZ, pS]
             refine tkO 12 (.bool true) (by simp only [gT, gZ, gS]; rfl) (puO (by (intro w hSw; (try dsimp only at hSw); go_simp))) ?_
             refine wpAnyH_done (by kernel_rfl) ?_ _
             go_simp
             go_wp2
             go_ret
             exact ⟨rfl, hb⟩
            case bp41 =>
             rw [if_pos (by rfl)]
             (with_reducible refine s_conv (.slice (some ⟨N5, 0, none⟩) 513 cap5) (.string tx) (HCv.out _ N5 cap5 hC2) ?_ ?_)
             · exact rfl
             have hH2 := hide hHeld
             clear hHeld
             refine hK.out _ _ ?_ (fun hHeld => ?_)
             · exact hH2.out
             clear hK K
             clear hH2
             simp only [Act.put, pA, pZ, pS]
             refine skO 3 (by simp only [gT, gZ, gS]; rfl) (fun K hK => ?_)
             rw [if_pos (by rfl)]
             (with_reducible refine s_conv (.slice (some ⟨N3, 0, none⟩) 513 cap3) (.string tx) (HCv.out _ N3 cap3 hC1) ?_ ?_)
             · exact rfl
             have hH2 := hide hHeld
             clear hHeld
             refine hK.out _ _ ?_ (fun hHeld => ?_)
             · exact hH2.out
             clear hK K
             clear hH2
             simp only [Act.put, pA, pZ, pS]
             refine tkO 8 (.bool true) (by simp only [gT, gZ, gS]; rfl) (puO (by (intro w hSw; (try dsimp only at hSw); go_simp))) ?_
             simp only [Act.put, pA, pZ, pS]
             refine tkO 9 (.bool true) (by simp only [gT, gZ, gS]; rfl) (puO (by (intro w hSw; (try dsimp only at hSw); go_simp))) ?_
             simp only [Act.put, pA, pZ, pS]
             refine skO 10 (by simp only [gT, gZ, gS]; rfl) (fun K hK => ?_)
             rw [if_pos (by rfl)]
             go_simp
             (with_reducible refine (HSu.out _ hA).mono ?_)
             rintro e V9 ⟨rfl, hbc⟩
             have hH2 := hide (show B < V9.heap.size from Nat.lt_of_lt_of_le hHeld hbc.size)
             replace hb := hb.trans (hbc.mono (by omega))
             clear hHeld hbc
             go_simp
             refine hK.out _ _ ?_ (fun hHeld => ?_)
             · exact hH2.out
             clear hK K
             clear hH2
             refine tkO 11 (.bool true) (by simp only [gT, gZ, gS]; rfl) (puO (by (intro w hSw; (try dsimp only at hSw); go_simp))) ?_
             simp only [Act.put, pA, pZ, pS]
             refine tkO 12 (.bool true) (by simp only [gT, gZ, gS]; rfl) (puO (by (intro w hSw; (try dsimp only at hSw); go_simp))) ?_
             refine wpAnyH_done (by kernel_rfl) ?_ _
             go_simp
             go_wp2
             go_ret
             exact ⟨rfl, hb⟩
         case bp20 =>
          rw [if_pos (by rfl)]
          (obtain ⟨NB, hNB0⟩ : ∃ n, V.heap.size = n := ⟨_, rfl⟩)
          (with_reducible refine s_bsr 37 5 1 Tryz.underlying37 #[.int .u8 (0 : Nat)] NB ?_ [(0, .int .u8 (0 : Nat))] ?_ (bs_byte 0) ?_)
          · exact hNB0
          · first | rfl | (simp; done) | kernel_rfl
          intro VB hby hbc hz3
          rw [← hNB0] at hbc
          clear hNB0 hz3
          have hH2 := hide (show B < VB.heap.size from Nat.lt_of_lt_of_le hHeld hbc.size)
          replace hb := hb.trans (hbc.mono (by omega))
          replace hA := hA.bl hbc
          replace hCa := hCa.bl hbc
          replace hCb := hCb.bl hbc
          replace hCf := hCf.bl hbc
          replace hBB := Nat.le_trans hBB hbc.size
          (try replace hC1 := BytesAt.bl hC1 hbc)
          (try replace hC2 := BytesAt.bl hC2 hbc)
          clear hHeld hbc
          refine hK.out _ _ ?_ (fun hHeld => ?_)
          · exact hH2.out
          clear hK K
          clear hH2
          simp only [Act.put, pA, pZ, pS]
          refine skO 2 (by simp only [gT, gZ, gS]; rfl) (fun K hK => ?_)
          rw [if_pos (by rfl)]
          (with_reducible refine s_appg NA c NC (513 - c) (513 - c) 513 hc513 _ _ (fulL bl ++ [0]) hCa hCb HL1.out HL2.out (by omega) (by omega) HS1.out HTD.out ?_ ?_ ?_)
          · exact rfl
          · exact rfl
          intro VA N3 cap3 hC1 hbc
          have hH2 := hide (show B < VA.heap.size from Nat.lt_of_lt_of_le hHeld hbc.size)
          replace hb := hb.trans (hbc.mono (by omega))
          replace hA := hA.bl hbc
          replace hCa := hCa.bl hbc
          replace hCb := hCb.bl hbc
          replace hCf := hCf.bl hbc
          replace hBB := Nat.le_trans hBB hbc.size
          (try replace hC2 := BytesAt.bl hC2 hbc)
          (try replace hby := hby.bl hbc)
          clear hHeld hbc
          refine hK.out _ _ ?_ (fun hHeld => ?_)
          · exact hH2.out
          clear hK K
          clear hH2
          simp only [Act.put, pA, pZ, pS]
          refine wpAnyH_ready (rs := [3, 6]) (by kernel_rfl) (by simp) ?_
          refine AllReadyH.cons (o := ?oip55) ?hip55 (fun K hK => ?bp55) (AllReadyH.cons (o := ?oip56) ?hip56 (fun K hK => ?bp56) (AllReadyH.nil))
          case hip55 => (simp only [List.getElem?_toArray, List.getElem?_cons_zero, List.getElem?_cons_succ]; rfl)
          case hip56 => (simp only [List.getElem?_toArray, List.getElem?_cons_zero, List.getElem?_cons_succ]; rfl)
          case bp55 =>
           rw [if_pos (by rfl)]
           (with_reducible refine s_conv (.slice (some ⟨N3, 0, none⟩) 513 cap3) (.string tx) (HCv.out _ N3 cap3 hC1) ?_ ?_)
           · exact rfl
           have hH2 := hide hHeld
           clear hHeld
           refine hK.out _ _ ?_ (fun hHeld => ?_)
           · exact hH2.out
           clear hK K
           clear hH2
           simp only [Act.put, pA, pZ, pS]
           refine skO 6 (by simp only [gT, gZ, gS]; rfl) (fun K hK => ?_)
           rw [if_pos (by rfl)]
           (have hCn : CellsAt _ NB [0] := ful_cells hby rfl)
           (with_reducible refine s_appg (NX + 1) 512 NB 1 1 513 rfl _ _ (fulL bl ++ [0]) hCf hCn HL0.out rfl (by decide) (by decide) HS1.out rfl ?_ ?_ ?_)
           · exact rfl
           · exact rfl
           intro VC N5 cap5 hC2 hbc
           clear hCn
           have hH2 := hide (show B < VC.heap.size from Nat.lt_of_lt_of_le hHeld hbc.size)
           replace hb := hb.trans (hbc.mono (by omega))
           replace hA := hA.bl hbc
           replace hCa := hCa.bl hbc
           replace hCb := hCb.bl hbc
           replace hCf := hCf.bl hbc
           replace hBB := Nat.le_trans hBB hbc.size
           (try replace hC1 := BytesAt.bl hC1 hbc)
           (try replace hby := hby.bl hbc)
           clear hHeld hbc
           refine hK.out _ _ ?_ (fun hHeld => ?_)
           · exact hH2.out
           clear hK K
           clear hH2
           simp only [Act.put, pA, pZ, pS]
           refine skO 7 (by simp only [gT, gZ, gS]; rfl) (fun K hK => ?_)
           rw [if_pos (by rfl)]
           (with_reducible refine s_conv (.slice (some ⟨N5, 0, none⟩) 513 cap5) (.string tx) (HCv.out _ N5 cap5 hC2) ?_ ?_)
           · exact rfl
           have hH2 := hide hHeld
           clear hHeld
           refine hK.out _ _ ?_ (fun hHeld => ?_)
           · exact hH2.out
           clear hK K
           clear hH2
           simp only [Act.put, pA, pZ, pS]
           refine tkO 8 (.bool true) (by simp only [gT, gZ, gS]; rfl) (puO (by (intro w hSw; (try dsimp only at hSw); go_simp))) ?_
           simp only [Act.put, pA, pZ, pS]
           refine tkO 9 (.bool true) (by simp only [gT, gZ, gS]; rfl) (puO (by (intro w hSw; (try dsimp only at hSw); go_simp))) ?_
           simp only [Act.put, pA, pZ, pS]
           refine skO 10 (by simp only [gT, gZ, gS]; rfl) (fun K hK => ?_)
           rw [if_pos (by rfl)]
           go_simp
           (with_reducible refine (HSu.out _ hA).mono ?_)
           rintro e V9 ⟨rfl, hbc⟩
           have hH2 := hide (show B < V9.heap.size from Nat.lt_of_lt_of_le hHeld hbc.size)
           replace hb := hb.trans (hbc.mono (by omega))
           clear hHeld hbc
           go_simp
           refine hK.out _ _ ?_ (fun hHeld => ?_)
           · exact hH2.out
           clear hK K
           clear hH2
           refine tkO 11 (.bool true) (by simp only [gT, gZ, gS]; rfl) (puO (by (intro w hSw; (try dsimp only at hSw); go_simp))) ?_
           simp only [Act.put, pA, pZ, pS]
           refine tkO 12 (.bool true) (by simp only [gT, gZ, gS]; rfl) (puO (by (intro w hSw; (try dsimp only at hSw); go_simp))) ?_
           refine wpAnyH_done (by kernel_rfl) ?_ _
           go_simp
           go_wp2
           go_ret
           exact ⟨rfl, hb⟩
          case bp56 =>
           rw [if_pos (by rfl)]
           (have hCn : CellsAt _ NB [0] := ful_cells hby rfl)
           (with_reducible refine s_appg (NX + 1) 512 NB 1 1 513 rfl _ _ (fulL bl ++ [0]) hCf hCn HL0.out rfl (by decide) (by decide) HS1.out rfl ?_ ?_ ?_)
           · exact rfl
           · exact rfl
           intro VC N5 cap5 hC2 hbc
           clear hCn
           have hH2 := hide (show B < VC.heap.size from Nat.lt_of_lt_of_le hHeld hbc.size)
           replace hb := hb.trans (hbc.mono (by omega))
           replace hA := hA.bl hbc
           replace hCa := hCa.bl hbc
           replace hCb := hCb.bl hbc
           replace hCf := hCf.bl hbc
           replace hBB := Nat.le_trans hBB hbc.size
           (try replace hC1 := BytesAt.bl hC1 hbc)
           (try replace hby := hby.bl hbc)
           clear hHeld hbc
           refine hK.out _ _ ?_ (fun hHeld => ?_)
           · exact hH2.out
           clear hK K
           clear hH2
           simp only [Act.put, pA, pZ, pS]
           refine wpAnyH_ready (rs := [3, 7]) (by kernel_rfl) (by simp) ?_
           refine AllReadyH.cons (o := ?oip64) ?hip64 (fun K hK => ?bp64) (AllReadyH.cons (o := ?oip65) ?hip65 (fun K hK => ?bp65) (AllReadyH.nil))
           case hip64 => (simp only [List.getElem?_toArray, List.getElem?_cons_zero, List.getElem?_cons_succ]; rfl)
           case hip65 => (simp only [List.getElem?_toArray, List.getElem?_cons_zero, List.getElem?_cons_succ]; rfl)
           case bp64 =>
            rw [if_pos (by rfl)]
            (with_reducible refine s_conv (.slice (some ⟨N3, 0, none⟩) 513 cap3) (.string tx) (HCv.out _ N3 cap3 hC1) ?_ ?_)
            · exact rfl
            have hH2 := hide hHeld
            clear hHeld
            refine hK.out _ _ ?_ (fun hHeld => ?_)
            · exact hH2.out
            clear hK K
            clear hH2
            simp only [Act.put, pA, pZ, pS]
            refine skO 7 (by simp only [gT, gZ, gS]; rfl) (fun K hK => ?_)
            rw [if_pos (by rfl)]
            (with_reducible refine s_conv (.slice (some ⟨N5, 0, none⟩) 513 cap5) (.string tx) (HCv.out _ N5 cap5 hC2) ?_ ?_)
            · exact rfl
            have hH2 := hide hHeld
            clear hHeld
            refine hK.out _ _ ?_ (fun hHeld => ?_)
            · exact hH2.out
            clear hK K
            clear hH2
            simp only [Act.put, pA, pZ, pS]
            refine tkO 8 (.bool true) (by simp only [gT, gZ, gS]; rfl) (puO (by (intro w hSw; (try dsimp only at hSw); go_simp))) ?_
            simp only [Act.put, pA, pZ, pS]
            refine tkO 9 (.bool true) (by simp only [gT, gZ, gS]; rfl) (puO (by (intro w hSw; (try dsimp only at hSw); go_simp))) ?_
            simp only [Act.put, pA, pZ, pS]
            refine skO 10 (by simp only [gT, gZ, gS]; rfl) (fun K hK => ?_)
            rw [if_pos (by rfl)]
            go_simp
            (with_reducible refine (HSu.out _ hA).mono ?_)
            rintro e V9 ⟨rfl, hbc⟩
            have hH2 := hide (show B < V9.heap.size from Nat.lt_of_lt_of_le hHeld hbc.size)
            replace hb := hb.trans (hbc.mono (by omega))
            clear hHeld hbc
            go_simp
            refine hK.out _ _ ?_ (fun hHeld => ?_)
            · exact hH2.out
            clear hK K
            clear hH2
            refine tkO 11 (.bool true) (by simp only [gT, gZ, gS]; rfl) (puO (by (intro w hSw; (try dsimp only at hSw); go_simp))) ?_
            simp only [Act.put, pA, pZ, pS]
            refine tkO 12 (.bool true) (by simp only [gT, gZ, gS]; rfl) (puO (by (intro w hSw; (try dsimp only at hSw); go_simp))) ?_
            refine wpAnyH_done (by kernel_rfl) ?_ _
            go_simp
            go_wp2
            go_ret
            exact ⟨rfl, hb⟩
           case bp65 =>
            rw [if_pos (by rfl)]
            (with_reducible refine s_conv (.slice (some ⟨N5, 0, none⟩) 513 cap5) (.string tx) (HCv.out _ N5 cap5 hC2) ?_ ?_)
            · exact rfl
            have hH2 := hide hHeld
            clear hHeld
            refine hK.out _ _ ?_ (fun hHeld => ?_)
            · exact hH2.out
            clear hK K
            clear hH2
            simp only [Act.put, pA, pZ, pS]
            refine skO 3 (by simp only [gT, gZ, gS]; rfl) (fun K hK => ?_)
            rw [if_pos (by rfl)]
            (with_reducible refine s_conv (.slice (some ⟨N3, 0, none⟩) 513 cap3) (.string tx) (HCv.out _ N3 cap3 hC1) ?_ ?_)
            · exact rfl
            have hH2 := hide hHeld
            clear hHeld
            refine hK.out _ _ ?_ (fun hHeld => ?_)
            · exact hH2.out
            clear hK K
            clear hH2
            simp only [Act.put, pA, pZ, pS]
            refine tkO 8 (.bool true) (by simp only [gT, gZ, gS]; rfl) (puO (by (intro w hSw; (try dsimp only at hSw); go_simp))) ?_
            simp only [Act.put, pA, pZ, pS]
            refine tkO 9 (.bool true) (by simp only [gT, gZ, gS]; rfl) (puO (by (intro w hSw; (try dsimp only at hSw); go_simp))) ?_
            simp only [Act.put, pA, pZ, pS]
            refine skO 10 (by simp only [gT, gZ, gS]; rfl) (fun K hK => ?_)
            rw [if_pos (by rfl)]
            go_simp
            (with_reducible refine (HSu.out _ hA).mono ?_)
            rintro e V9 ⟨rfl, hbc⟩
            have hH2 := hide (show B < V9.heap.size from Nat.lt_of_lt_of_le hHeld hbc.size)
            replace hb := hb.trans (hbc.mono (by omega))
            clear hHeld hbc
            go_simp
            refine hK.out _ _ ?_ (fun hHeld => ?_)
            · exact hH2.out
            clear hK K
            clear hH2
            refine tkO 11 (.bool true) (by simp only [gT, gZ, gS]; rfl) (puO (by (intro w hSw; (try dsimp only at hSw); go_simp))) ?_
            simp only [Act.put, pA, pZ, pS]
            refine tkO 12 (.bool true) (by simp only [gT, gZ, gS]; rfl) (puO (by (intro w hSw; (try dsimp only at hSw); go_simp))) ?_
            refine wpAnyH_done (by kernel_rfl) ?_ _
            go_simp
            go_wp2
            go_ret
            exact ⟨rfl, hb⟩
        case bp9 =>
         rw [if_pos (by rfl)]
         (obtain ⟨NT, hNT0⟩ : ∃ n, V.heap.size = n := ⟨_, rfl⟩)
         (with_reducible refine s_alc NT ?_ (zeroBk.c nilS) zero_bk ?_)
         · exact hNT0
         intro V3 ht hbc hz
         rw [← hNT0] at hbc
         (have hNRT : NR < NT := hNT0 ▸ hNl)
         (have hgT : ga < NT := hNT0 ▸ hHeld.2.lt)
         (have hnt : ¬ O3 NT := fun e => absurd (hM.lt _ e) (by omega))
         clear hz hNT0
         have hH2 := hide (And.intro (hHeld.1.bl hbc) (hHeld.2.bl hbc))
         replace hA := hA.bl hbc
         replace hb := hb.trans (hbc.mono (by have := hM.base; omega))
         replace hM := hM.bl hbc
         replace hI := hI.bl hbc
         replace hf := hf.bl hbc
         replace hNl := Nat.lt_of_lt_of_le hNl hbc.size
         clear hHeld hbc
         refine hK.out _ _ ?_ (fun hHeld => ?_)
         · exact hH2.out
         clear hK K
         clear hH2
         refine skO 7 (by simp only [gT, gZ, gS]; rfl) (fun K hK => ?_)
         rw [if_pos (by rfl)]
         go_simp
         (with_reducible refine (HFi.out _ _ _ _ _ _ _ hM hA hI (HFO.out _ _ _ hf HFE.out).1).mono ?_)
         rintro e V4 ⟨v2, O4, rfl, hM3, hW3, hI2⟩
         have hH2 := hide (And.intro (hW3.row hHeld.1 hnr) (hW3.row hHeld.2 hgo))
         (have hv2o := own_one hI2.row)
         (have hnt3 := hW3.no ht.lt hnt)
         replace ht := hW3.row ht hnt
         clear hnt
         (have hnt := hnt3)
         clear hnt3
         (have hnf3 := hW3.no hf.lt hnf)
         replace hf := hW3.row hf hnf
         clear hnf
         (have hnf := hnf3)
         clear hnf3
         replace hb := hb.trans (hW3.below.mono (by omega))
         replace hA := hA.wentR hG hW3
         replace hNl := Nat.lt_of_lt_of_le hNl hW3.size
         (have hBl : B + 1 + 1 ≤ V4.heap.size := by omega)
         (obtain ⟨va2, vc2, rfl⟩ := in_none hI2)
         clear hM hI hW3 hHeld hI2
         go_simp
         refine hK.out _ _ ?_ (fun hHeld => ?_)
         · exact hH2.out
         clear hK K
         clear hH2
         refine tkO 8 (.tuple #[.agg (s3.c (.slice va2 0 vc2)), .nilIface]) (by simp only [gT, gZ, gS]; rfl) (puO (by (intro w hSw; (try dsimp only at hSw); go_simp))) ?_
         simp only [Act.put, pA, pZ, pS]
         refine tkO 9 (.agg (s3.c (.slice va2 0 vc2))) (by simp only [gT, gZ, gS]; rfl) (puO (by (intro w hSw; (try dsimp only at hSw); go_simp))) ?_
         simp only [Act.put, pA, pZ, pS]
         refine tkO 10 (.nilIface) (by simp only [gT, gZ, gS]; rfl) (puO (by (intro w hSw; (try dsimp only at hSw); go_simp))) ?_
         simp only [Act.put, pA, pZ, pS]
         refine skO 12 (by simp only [gT, gZ, gS]; rfl) (fun K hK => ?_)
         rw [if_pos (by rfl)]
         (with_reducible refine s_bk NT _ _ s3 (.slice va2 0 vc2) hv2o ht ?_ ?_ ?_)
         · exact rfl
         · exact rfl
         intro V5 hnew hoo
         have hH2 := hide (And.intro (hHeld.1.only hoo (by omega)) (hHeld.2.only hoo (by omega)))
         replace hM3 := hM3.only hoo hnt
         replace hA := hA.onlyR hoo (by omega)
         replace hb := hoo.bel _ _ (by omega) hb
         replace hf := hf.only hoo (by omega)
         clear ht
         (have ht := hnew)
         clear hHeld hoo hnew
         refine hK.out _ _ ?_ (fun hHeld => ?_)
         · exact hH2.out
         clear hK K
         clear hH2
         refine tkO 13 (.nilIface) (by simp only [gT, gZ, gS]; rfl) (puO (by (intro w hSw; (try dsimp only at hSw); go_simp))) ?_
         simp only [Act.put, pA, pZ, pS]
         refine wpAnyH_done (by kernel_rfl) ?_ _
         go_simp
         go_wp2_with (first | (go_at_call 14; (with_reducible refine (HR1.out _ _ _ hM3).mono ?_); rintro e W6 ⟨NA, rfl, hCa, O6, hM6, hW6, hnA⟩; (have hnf3 := hW6.no hf.lt hnf); replace hf := hW6.row hf hnf; clear hnf; (have hnf := hnf3); clear hnf3; (have hnt3 := hW6.no ht.lt hnt); replace ht := hW6.row ht hnt; clear hnt; (have hnt := hnt3); clear hnt3; replace hb := hb.trans (hW6.below.mono (by omega)); replace hA := hA.wentR hG hW6; clear hM3; (have hM3 := hM6); clear hM6 hW6) | (go_at_call 14; (with_reducible refine (HR2.out _ _ _ _ hM3 ?_).mono ?_); (first | omega | (simp; omega)); rintro e W7 ⟨NC, rfl, hCb, O7, hM6, hW6, hnB⟩; replace hCa := hCa.went hW6 hnA; (have hnf3 := hW6.no hf.lt hnf); replace hf := hW6.row hf hnf; clear hnf; (have hnf := hnf3); clear hnf3; (have hnt3 := hW6.no ht.lt hnt); replace ht := hW6.row ht hnt; clear hnt; (have hnt := hnt3); clear hnt3; replace hb := hb.trans (hW6.below.mono (by omega)); replace hA := hA.wentR hG hW6; clear hM3; (have hM3 := hM6); clear hM6 hW6) | ((with_reducible refine ld_bin NT s3 _ _ ht ?_ ?_ ?_); exact rfl; exact rfl))
         have hCf := (HFO.out _ _ _ hf HFE.out).2
         refine wp_region_held_drew (S := (fun V => B < V.heap.size)) (by kernel_rfl) ?_ (fun hHeld => ?_)
         · exact (show B < (World.drew _).heap.size from Nat.lt_of_lt_of_le (by omega) hM3.base)
         replace hb := hb.drew
         replace hA := hA.drR
         replace hCa := hCa.dr
         replace hCb := hCb.dr
         replace hCf := hCf.dr
         have hBB : B + 1 + 1 ≤ (World.drew _).heap.size := hM3.base
         clear hM3 ht hf hnt hnf
         generalize World.drew _ = V at hHeld hb hA hCa hCb hCf hBB ⊢
         refine tkO 0 (.slice (some ⟨NA, 0, none⟩) c c) (by simp only [gT, gZ]; rfl) (puO (by (intro w hSw; (try dsimp only at hSw); go_simp))) ?_
         simp only [Act.put, pA, pZ, pS]
         refine tkO 1 (.slice (some ⟨NC, 0, none⟩) (513 - c) (513 - c)) (by simp only [gT, gZ, gS]; rfl) (puO (by (intro w hSw; (try dsimp only at hSw); go_simp))) ?_
         simp only [Act.put, pA, pZ, pS]
         refine tkO 4 (.slice (some ⟨NX + 1, 0, none⟩) 512 512) (by simp only [gT, gZ, gS]; rfl) (puO (by (intro w hSw; (try dsimp only at hSw); go_simp))) ?_
         simp only [Act.put, pA, pZ, pS]
         refine wpAnyH_ready (rs := [2, 5]) (by kernel_rfl) (by simp) ?_
         refine AllReadyH.cons (o := ?oip87) ?hip87 (fun K hK => ?bp87) (AllReadyH.cons (o := ?oip88) ?hip88 (fun K hK => ?bp88) (AllReadyH.nil))
         case hip87 => (simp only [List.getElem?_toArray, List.getElem?_cons_zero, List.getElem?_cons_succ]; rfl)
         case hip88 => (simp only [List.getElem?_toArray, List.getElem?_cons_zero, List.getElem?_cons_succ]; rfl)
         case bp87 =>
          rw [if_pos (by rfl)]
          (with_reducible refine s_appg NA c NC (513 - c) (513 - c) 513 hc513 _ _ (fulL bl ++ [0]) hCa hCb HL1.out HL2.out (by omega) (by omega) HS1.out HTD.out ?_ ?_ ?_)
          · exact rfl
          · exact rfl
          intro VA N3 cap3 hC1 hbc
          have hH2 := hide (show B < VA.heap.size from Nat.lt_of_lt_of_le hHeld hbc.size)
          replace hb := hb.trans (hbc.mono (by omega))
          replace hA := hA.bl hbc
          replace hCa := hCa.bl hbc
          replace hCb := hCb.bl hbc
          replace hCf := hCf.bl hbc
          replace hBB := Nat.le_trans hBB hbc.size
          (try replace hC2 := BytesAt.bl hC2 hbc)
          (try replace hby := hby.bl hbc)
          clear hHeld hbc
          refine hK.out _ _ ?_ (fun hHeld => ?_)
          · exact hH2.out
          clear hK K
          clear hH2
          simp only [Act.put, pA, pZ, pS]
          refine wpAnyH_ready (rs := [3, 5]) (by kernel_rfl) (by simp) ?_
          refine AllReadyH.cons (o := ?oip89) ?hip89 (fun K hK => ?bp89) (AllReadyH.cons (o := ?oip90) ?hip90 (fun K hK => ?bp90) (AllReadyH.nil))
          case hip89 => (simp only [List.getElem?_toArray, List.getElem?_cons_zero, List.getElem?_cons_succ]; rfl)
          case hip90 => (simp only [List.getElem?_toArray, List.getElem?_cons_zero, List.getElem?_cons_succ]; rfl)
          case bp89 =>
           rw [if_pos (by rfl)]
           (with_reducible refine s_conv (.slice (some ⟨N3, 0, none⟩) 513 cap3) (.string tx) (HCv.out _ N3 cap3 hC1) ?_ ?_)
           · exact rfl
           have hH2 := hide hHeld
           clear hHeld
           refine hK.out _ _ ?_ (fun hHeld => ?_)
           · exact hH2.out
           clear hK K
           clear hH2
           simp only [Act.put, pA, pZ, pS]
           refine skO 5 (by simp only [gT, gZ, gS]; rfl) (fun K hK => ?_)
           rw [if_pos (by rfl)]
           (obtain ⟨NB, hNB0⟩ : ∃ n, VA.heap.size = n := ⟨_, rfl⟩)
           (with_reducible refine s_bsr 37 5 1 Tryz.underlying37 #[.int .u8 (0 : Nat)] NB ?_ [(0, .int .u8 (0 : Nat))] ?_ (bs_byte 0) ?_)
           · exact hNB0
           · first | rfl | (simp; done) | kernel_rfl
           intro VB hby hbc hz3
           rw [← hNB0] at hbc
           clear hNB0 hz3
           have hH2 := hide (show B < VB.heap.size from Nat.lt_of_lt_of_le hHeld hbc.size)
           replace hb := hb.trans (hbc.mono (by omega))
           replace hA := hA.bl hbc
           replace hCa := hCa.bl hbc
           replace hCb := hCb.bl hbc
           replace hCf := hCf.bl hbc
           replace hBB := Nat.le_trans hBB hbc.size
           (try replace hC1 := BytesAt.bl hC1 hbc)
           (try replace hC2 := BytesAt.bl hC2 hbc)
           clear hHeld hbc
           refine hK.out _ _ ?_ (fun hHeld => ?_)
           · exact hH2.out
           clear hK K
           clear hH2
           simp only [Act.put, pA, pZ, pS]
           refine skO 6 (by simp only [gT, gZ, gS]; rfl) (fun K hK => ?_)
           rw [if_pos (by rfl)]
           (have hCn : CellsAt _ NB [0] := ful_cells hby rfl)
           (with_reducible refine s_appg (NX + 1) 512 NB 1 1 513 rfl _ _ (fulL bl ++ [0]) hCf hCn HL0.out rfl (by decide) (by decide) HS1.out rfl ?_ ?_ ?_)
           · exact rfl
           · exact rfl
           intro VC N5 cap5 hC2 hbc
           clear hCn
           have hH2 := hide (show B < VC.heap.size from Nat.lt_of_lt_of_le hHeld hbc.size)
           replace hb := hb.trans (hbc.mono (by omega))
           replace hA := hA.bl hbc
           replace hCa := hCa.bl hbc
           replace hCb := hCb.bl hbc
           replace hCf := hCf.bl hbc
           replace hBB := Nat.le_trans hBB hbc.size
           (try replace hC1 := BytesAt.bl hC1 hbc)
           (try replace hby := hby.bl hbc)
           clear hHeld hbc
           refine hK.out _ _ ?_ (fun hHeld => ?_)
           · exact hH2.out
           clear hK K
           clear hH2
           simp only [Act.put, pA, pZ, pS]
           refine skO 7 (by simp only [gT, gZ, gS]; rfl) (fun K hK => ?_)
           rw [if_pos (by rfl)]
           (with_reducible refine s_conv (.slice (some ⟨N5, 0, none⟩) 513 cap5) (.string tx) (HCv.out _ N5 cap5 hC2) ?_ ?_)
           · exact rfl
           have hH2 := hide hHeld
           clear hHeld
           refine hK.out _ _ ?_ (fun hHeld => ?_)
           · exact hH2.out
           clear hK K
           clear hH2
           simp only [Act.put, pA, pZ, pS]
           refine tkO 8 (.bool true) (by simp only [gT, gZ, gS]; rfl) (puO (by (intro w hSw; (try dsimp only at hSw); go_simp))) ?_
           simp only [Act.put, pA, pZ, pS]
           refine tkO 9 (.bool true) (by simp only [gT, gZ, gS]; rfl) (puO (by (intro w hSw; (try dsimp only at hSw); go_simp))) ?_
           simp only [Act.put, pA, pZ, pS]
           refine skO 10 (by simp only [gT, gZ, gS]; rfl) (fun K hK => ?_)
           rw [if_pos (by rfl)]
           go_simp
           (with_reducible refine (HSu.out _ hA).mono ?_)
           rintro e V9 ⟨rfl, hbc⟩
           have hH2 := hide (show B < V9.heap.size from Nat.lt_of_lt_of_le hHeld hbc.size)
           replace hb := hb.trans (hbc.mono (by omega))
           clear hHeld hbc
           go_simp
           refine hK.out _ _ ?_ (fun hHeld => ?_)
           · exact hH2.out
           clear hK K
           clear hH2
           refine tkO 11 (.bool true) (by simp only [gT, gZ, gS]; rfl) (puO (by (intro w hSw; (try dsimp only at hSw); go_simp))) ?_
           simp only [Act.put, pA, pZ, pS]
           refine tkO 12 (.bool true) (by simp only [gT, gZ, gS]; rfl) (puO (by (intro w hSw; (try dsimp only at hSw); go_simp))) ?_
           refine wpAnyH_done (by kernel_rfl) ?_ _
           go_simp
           go_wp2
           go_ret
           exact ⟨rfl, hb⟩
          case bp90 =>
           rw [if_pos (by rfl)]
           (obtain ⟨NB, hNB0⟩ : ∃ n, VA.heap.size = n := ⟨_, rfl⟩)
           (with_reducible refine s_bsr 37 5 1 Tryz.underlying37 #[.int .u8 (0 : Nat)] NB ?_ [(0, .int .u8 (0 : Nat))] ?_ (bs_byte 0) ?_)
           · exact hNB0
           · first | rfl | (simp; done) | kernel_rfl
           intro VB hby hbc hz3
           rw [← hNB0] at hbc
           clear hNB0 hz3
           have hH2 := hide (show B < VB.heap.size from Nat.lt_of_lt_of_le hHeld hbc.size)
           replace hb := hb.trans (hbc.mono (by omega))
           replace hA := hA.bl hbc
           replace hCa := hCa.bl hbc
           replace hCb := hCb.bl hbc
           replace hCf := hCf.bl hbc
           replace hBB := Nat.le_trans hBB hbc.size
           (try replace hC1 := BytesAt.bl hC1 hbc)
           (try replace hC2 := BytesAt.bl hC2 hbc)
           clear hHeld hbc
           refine hK.out _ _ ?_ (fun hHeld => ?_)
           · exact hH2.out
           clear hK K
           clear hH2
           simp only [Act.put, pA, pZ, pS]
           refine wpAnyH_ready (rs := [3, 6]) (by kernel_rfl) (by simp) ?_
           refine AllReadyH.cons (o := ?oip99) ?hip99 (fun K hK => ?bp99) (AllReadyH.cons (o := ?oip100) ?hip100 (fun K hK => ?bp100) (AllReadyH.nil))
           case hip99 => (simp only [List.getElem?_toArray, List.getElem?_cons_zero, List.getElem?_cons_succ]; rfl)
           case hip100 => (simp only [List.getElem?_toArray, List.getElem?_cons_zero, List.getElem?_cons_succ]; rfl)
           case bp99 =>
            rw [if_pos (by rfl)]
            (with_reducible refine s_conv (.slice (some ⟨N3, 0, none⟩) 513 cap3) (.string tx) (HCv.out _ N3 cap3 hC1) ?_ ?_)
            · exact rfl
            have hH2 := hide hHeld
            clear hHeld
            refine hK.out _ _ ?_ (fun hHeld => ?_)
            · exact hH2.out
            clear hK K
            clear hH2
            simp only [Act.put, pA, pZ, pS]
            refine skO 6 (by simp only [gT, gZ, gS]; rfl) (fun K hK => ?_)
            rw [if_pos (by rfl)]
            (have hCn : CellsAt _ NB [0] := ful_cells hby rfl)
            (with_reducible refine s_appg (NX + 1) 512 NB 1 1 513 rfl _ _ (fulL bl ++ [0]) hCf hCn HL0.out rfl (by decide) (by decide) HS1.out rfl ?_ ?_ ?_)
            · exact rfl
            · exact rfl
            intro VC N5 cap5 hC2 hbc
            clear hCn
            have hH2 := hide (show B < VC.heap.size from Nat.lt_of_lt_of_le hHeld hbc.size)
            replace hb := hb.trans (hbc.mono (by omega))
            replace hA := hA.bl hbc
            replace hCa := hCa.bl hbc
            replace hCb := hCb.bl hbc
            replace hCf := hCf.bl hbc
            replace hBB := Nat.le_trans hBB hbc.size
            (try replace hC1 := BytesAt.bl hC1 hbc)
            (try replace hby := hby.bl hbc)
            clear hHeld hbc
            refine hK.out _ _ ?_ (fun hHeld => ?_)
            · exact hH2.out
            clear hK K
            clear hH2
            simp only [Act.put, pA, pZ, pS]
            refine skO 7 (by simp only [gT, gZ, gS]; rfl) (fun K hK => ?_)
            rw [if_pos (by rfl)]
            (with_reducible refine s_conv (.slice (some ⟨N5, 0, none⟩) 513 cap5) (.string tx) (HCv.out _ N5 cap5 hC2) ?_ ?_)
            · exact rfl
            have hH2 := hide hHeld
            clear hHeld
            refine hK.out _ _ ?_ (fun hHeld => ?_)
            · exact hH2.out
            clear hK K
            clear hH2
            simp only [Act.put, pA, pZ, pS]
            refine tkO 8 (.bool true) (by simp only [gT, gZ, gS]; rfl) (puO (by (intro w hSw; (try dsimp only at hSw); go_simp))) ?_
            simp only [Act.put, pA, pZ, pS]
            refine tkO 9 (.bool true) (by simp only [gT, gZ, gS]; rfl) (puO (by (intro w hSw; (try dsimp only at hSw); go_simp))) ?_
            simp only [Act.put, pA, pZ, pS]
            refine skO 10 (by simp only [gT, gZ, gS]; rfl) (fun K hK => ?_)
            rw [if_pos (by rfl)]
            go_simp
            (with_reducible refine (HSu.out _ hA).mono ?_)
            rintro e V9 ⟨rfl, hbc⟩
            have hH2 := hide (show B < V9.heap.size from Nat.lt_of_lt_of_le hHeld hbc.size)
            replace hb := hb.trans (hbc.mono (by omega))
            clear hHeld hbc
            go_simp
            refine hK.out _ _ ?_ (fun hHeld => ?_)
            · exact hH2.out
            clear hK K
            clear hH2
            refine tkO 11 (.bool true) (by simp only [gT, gZ, gS]; rfl) (puO (by (intro w hSw; (try dsimp only at hSw); go_simp))) ?_
            simp only [Act.put, pA, pZ, pS]
            refine tkO 12 (.bool true) (by simp only [gT, gZ, gS]; rfl) (puO (by (intro w hSw; (try dsimp only at hSw); go_simp))) ?_
            refine wpAnyH_done (by kernel_rfl) ?_ _
            go_simp
            go_wp2
            go_ret
            exact ⟨rfl, hb⟩
           case bp100 =>
            rw [if_pos (by rfl)]
            (have hCn : CellsAt _ NB [0] := ful_cells hby rfl)
            (with_reducible refine s_appg (NX + 1) 512 NB 1 1 513 rfl _ _ (fulL bl ++ [0]) hCf hCn HL0.out rfl (by decide) (by decide) HS1.out rfl ?_ ?_ ?_)
            · exact rfl
            · exact rfl
            intro VC N5 cap5 hC2 hbc
            clear hCn
            have hH2 := hide (show B < VC.heap.size from Nat.lt_of_lt_of_le hHeld hbc.size)
            replace hb := hb.trans (hbc.mono (by omega))
            replace hA := hA.bl hbc
            replace hCa := hCa.bl hbc
            replace hCb := hCb.bl hbc
            replace hCf := hCf.bl hbc
            replace hBB := Nat.le_trans hBB hbc.size
            (try replace hC1 := BytesAt.bl hC1 hbc)
            (try replace hby := hby.bl hbc)
            clear hHeld hbc
            refine hK.out _ _ ?_ (fun hHeld => ?_)
            · exact hH2.out
            clear hK K
            clear hH2
            simp only [Act.put, pA, pZ, pS]
            refine wpAnyH_ready (rs := [3, 7]) (by kernel_rfl) (by simp) ?_
            refine AllReadyH.cons (o := ?oip108) ?hip108 (fun K hK => ?bp108) (AllReadyH.cons (o := ?oip109) ?hip109 (fun K hK => ?bp109) (AllReadyH.nil))
            case hip108 => (simp only [List.getElem?_toArray, List.getElem?_cons_zero, List.getElem?_cons_succ]; rfl)
            case hip109 => (simp only [List.getElem?_toArray, List.getElem?_cons_zero, List.getElem?_cons_succ]; rfl)
            case bp108 =>
             rw [if_pos (by rfl)]
             (with_reducible refine s_conv (.slice (some ⟨N3, 0, none⟩) 513 cap3) (.string tx) (HCv.out _ N3 cap3 hC1) ?_ ?_)
             · exact rfl
             have hH2 := hide hHeld
             clear hHeld
             refine hK.out _ _ ?_ (fun hHeld => ?_)
             · exact hH2.out
             clear hK K
             clear hH2
             simp only [Act.put, pA, pZ, pS]
             refine skO 7 (by simp only [gT, gZ, gS]; rfl) (fun K hK => ?_)
             rw [if_pos (by rfl)]
             (with_reducible refine s_conv (.slice (some ⟨N5, 0, none⟩) 513 cap5) (.string tx) (HCv.out _ N5 cap5 hC2) ?_ ?_)
             · exact rfl
             have hH2 := hide hHeld
             clear hHeld
             refine hK.out _ _ ?_ (fun hHeld => ?_)
             · exact hH2.out
             clear hK K
             clear hH2
             simp only [Act.put, pA, pZ, pS]
             refine tkO 8 (.bool true) (by simp only [gT, gZ, gS]; rfl) (puO (by (intro w hSw; (try dsimp only at hSw); go_simp))) ?_
             simp only [Act.put, pA, pZ, pS]
             refine tkO 9 (.bool true) (by simp only [gT, gZ, gS]; rfl) (puO (by (intro w hSw; (try dsimp only at hSw); go_simp))) ?_
             simp only [Act.put, pA, pZ, pS]
             refine skO 10 (by simp only [gT, gZ, gS]; rfl) (fun K hK => ?_)
             rw [if_pos (by rfl)]
             go_simp
             (with_reducible refine (HSu.out _ hA).mono ?_)
             rintro e V9 ⟨rfl, hbc⟩
             have hH2 := hide (show B < V9.heap.size from Nat.lt_of_lt_of_le hHeld hbc.size)
             replace hb := hb.trans (hbc.mono (by omega))
             clear hHeld hbc
             go_simp
             refine hK.out _ _ ?_ (fun hHeld => ?_)
             · exact hH2.out
             clear hK K
             clear hH2
             refine tkO 11 (.bool true) (by simp only [gT, gZ, gS]; rfl) (puO (by (intro w hSw; (try dsimp only at hSw); go_simp))) ?_
             simp only [Act.put, pA, pZ, pS]
             refine tkO 12 (.bool true) (by simp only [gT, gZ, gS]; rfl) (puO (by (intro w hSw; (try dsimp only at hSw); go_simp))) ?_
             refine wpAnyH_done (by kernel_rfl) ?_ _
             go_simp
             go_wp2
             go_ret
             exact ⟨rfl, hb⟩
            case bp109 =>
             rw [if_pos (by rfl)]
             (with_reducible refine s_conv (.slice (some ⟨N5, 0, none⟩) 513 cap5) (.string tx) (HCv.out _ N5 cap5 hC2) ?_ ?_)
             · exact rfl
             have hH2 := hide hHeld
             clear hHeld
             refine hK.out _ _ ?_ (fun hHeld => ?_)
             · exact hH2.out
             clear hK K
             clear hH2
             simp only [Act.put, pA, pZ, pS]
             refine skO 3 (by simp only [gT, gZ, gS]; rfl) (fun K hK => ?_)
             rw [if_pos (by rfl)]
             (with_reducible refine s_conv (.slice (some ⟨N3, 0, none⟩) 513 cap3) (.string tx) (HCv.out _ N3 cap3 hC1) ?_ ?_)
             · exact rfl
             have hH2 := hide hHeld
             clear hHeld
             refine hK.out _ _ ?_ (fun hHeld => ?_)
             · exact hH2.out
             clear hK K
             clear hH2
             simp only [Act.put, pA, pZ, pS]
             refine tkO 8 (.bool true) (by simp only [gT, gZ, gS]; rfl) (puO (by (intro w hSw; (try dsimp only at hSw); go_simp))) ?_
             simp only [Act.put, pA, pZ, pS]
             refine tkO 9 (.bool true) (by simp only [gT, gZ, gS]; rfl) (puO (by (intro w hSw; (try dsimp only at hSw); go_simp))) ?_
             simp only [Act.put, pA, pZ, pS]
             refine skO 10 (by simp only [gT, gZ, gS]; rfl) (fun K hK => ?_)
             rw [if_pos (by rfl)]
             go_simp
             (with_reducible refine (HSu.out _ hA).mono ?_)
             rintro e V9 ⟨rfl, hbc⟩
             have hH2 := hide (show B < V9.heap.size from Nat.lt_of_lt_of_le hHeld hbc.size)
             replace hb := hb.trans (hbc.mono (by omega))
             clear hHeld hbc
             go_simp
             refine hK.out _ _ ?_ (fun hHeld => ?_)
             · exact hH2.out
             clear hK K
             clear hH2
             refine tkO 11 (.bool true) (by simp only [gT, gZ, gS]; rfl) (puO (by (intro w hSw; (try dsimp only at hSw); go_simp))) ?_
             simp only [Act.put, pA, pZ, pS]
             refine tkO 12 (.bool true) (by simp only [gT, gZ, gS]; rfl) (puO (by (intro w hSw; (try dsimp only at hSw); go_simp))) ?_
             refine wpAnyH_done (by kernel_rfl) ?_ _
             go_simp
             go_wp2
             go_ret
             exact ⟨rfl, hb⟩
         case bp88 =>
          rw [if_pos (by rfl)]
          (obtain ⟨NB, hNB0⟩ : ∃ n, V.heap.size = n := ⟨_, rfl⟩)
          (with_reducible refine s_bsr 37 5 1 Tryz.underlying37 #[.int .u8 (0 : Nat)] NB ?_ [(0, .int .u8 (0 : Nat))] ?_ (bs_byte 0) ?_)
          · exact hNB0
          · first | rfl | (simp; done) | kernel_rfl
          intro VB hby hbc hz3
          rw [← hNB0] at hbc
          clear hNB0 hz3
          have hH2 := hide (show B < VB.heap.size from Nat.lt_of_lt_of_le hHeld hbc.size)
          replace hb := hb.trans (hbc.mono (by omega))
          replace hA := hA.bl hbc
          replace hCa := hCa.bl hbc
          replace hCb := hCb.bl hbc
          replace hCf := hCf.bl hbc
          replace hBB := Nat.le_trans hBB hbc.size
          (try replace hC1 := BytesAt.bl hC1 hbc)
          (try replace hC2 := BytesAt.bl hC2 hbc)
          clear hHeld hbc
          refine hK.out _ _ ?_ (fun hHeld => ?_)
          · exact hH2.out
          clear hK K
          clear hH2
          simp only [Act.put, pA, pZ, pS]
          refine skO 2 (by simp only [gT, gZ, gS]; rfl) (fun K hK => ?_)
          rw [if_pos (by rfl)]
          (with_reducible refine s_appg NA c NC (513 - c) (513 - c) 513 hc513 _ _ (fulL bl ++ [0]) hCa hCb HL1.out HL2.out (by omega) (by omega) HS1.out HTD.out ?_ ?_ ?_)
          · exact rfl
          · exact rfl
          intro VA N3 cap3 hC1 hbc
          have hH2 := hide (show B < VA.heap.size from Nat.lt_of_lt_of_le hHeld hbc.size)
          replace hb := hb.trans (hbc.mono (by omega))
          replace hA := hA.bl hbc
          replace hCa := hCa.bl hbc
          replace hCb := hCb.bl hbc
          replace hCf := hCf.bl hbc
          replace hBB := Nat.le_trans hBB hbc.size
          (try replace hC2 := BytesAt.bl hC2 hbc)
          (try replace hby := hby.bl hbc)
          clear hHeld hbc
          refine hK.out _ _ ?_ (fun hHeld => ?_)
          · exact hH2.out
          clear hK K
          clear hH2
          simp only [Act.put, pA, pZ, pS]
          refine wpAnyH_ready (rs := [3, 6]) (by kernel_rfl) (by simp) ?_
          refine AllReadyH.cons (o := ?oip123) ?hip123 (fun K hK => ?bp123) (AllReadyH.cons (o := ?oip124) ?hip124 (fun K hK => ?bp124) (AllReadyH.nil))
          case hip123 => (simp only [List.getElem?_toArray, List.getElem?_cons_zero, List.getElem?_cons_succ]; rfl)
          case hip124 => (simp only [List.getElem?_toArray, List.getElem?_cons_zero, List.getElem?_cons_succ]; rfl)
          case bp123 =>
           rw [if_pos (by rfl)]
           (with_reducible refine s_conv (.slice (some ⟨N3, 0, none⟩) 513 cap3) (.string tx) (HCv.out _ N3 cap3 hC1) ?_ ?_)
           · exact rfl
           have hH2 := hide hHeld
           clear hHeld
           refine hK.out _ _ ?_ (fun hHeld => ?_)
           · exact hH2.out
           clear hK K
           clear hH2
           simp only [Act.put, pA, pZ, pS]
           refine skO 6 (by simp only [gT, gZ, gS]; rfl) (fun K hK => ?_)
           rw [if_pos (by rfl)]
           (have hCn : CellsAt _ NB [0] := ful_cells hby rfl)
           (with_reducible refine s_appg (NX + 1) 512 NB 1 1 513 rfl _ _ (fulL bl ++ [0]) hCf hCn HL0.out rfl (by decide) (by decide) HS1.out rfl ?_ ?_ ?_)
           · exact rfl
           · exact rfl
           intro VC N5 cap5 hC2 hbc
           clear hCn
           have hH2 := hide (show B < VC.heap.size from Nat.lt_of_lt_of_le hHeld hbc.size)
           replace hb := hb.trans (hbc.mono (by omega))
           replace hA := hA.bl hbc
           replace hCa := hCa.bl hbc
           replace hCb := hCb.bl hbc
           replace hCf := hCf.bl hbc
           replace hBB := Nat.le_trans hBB hbc.size
           (try replace hC1 := BytesAt.bl hC1 hbc)
           (try replace hby := hby.bl hbc)
           clear hHeld hbc
           refine hK.out _ _ ?_ (fun hHeld => ?_)
           · exact hH2.out
           clear hK K
           clear hH2
           simp only [Act.put, pA, pZ, pS]
           refine skO 7 (by simp only [gT, gZ, gS]; rfl) (fun K hK => ?_)
           rw [if_pos (by rfl)]
           (with_reducible refine s_conv (.slice (some ⟨N5, 0, none⟩) 513 cap5) (.string tx) (HCv.out _ N5 cap5 hC2) ?_ ?_)
           · exact rfl
           have hH2 := hide hHeld
           clear hHeld
           refine hK.out _ _ ?_ (fun hHeld => ?_)
           · exact hH2.out
           clear hK K
           clear hH2
           simp only [Act.put, pA, pZ, pS]
           refine tkO 8 (.bool true) (by simp only [gT, gZ, gS]; rfl) (puO (by (intro w hSw; (try dsimp only at hSw); go_simp))) ?_
           simp only [Act.put, pA, pZ, pS]
           refine tkO 9 (.bool true) (by simp only [gT, gZ, gS]; rfl) (puO (by (intro w hSw; (try dsimp only at hSw); go_simp))) ?_
           simp only [Act.put, pA, pZ, pS]
           refine skO 10 (by simp only [gT, gZ, gS]; rfl) (fun K hK => ?_)
           rw [if_pos (by rfl)]
           go_simp
           (with_reducible refine (HSu.out _ hA).mono ?_)
           rintro e V9 ⟨rfl, hbc⟩
           have hH2 := hide (show B < V9.heap.size from Nat.lt_of_lt_of_le hHeld hbc.size)
           replace hb := hb.trans (hbc.mono (by omega))
           clear hHeld hbc
           go_simp
           refine hK.out _ _ ?_ (fun hHeld => ?_)
           · exact hH2.out
           clear hK K
           clear hH2
           refine tkO 11 (.bool true) (by simp only [gT, gZ, gS]; rfl) (puO (by (intro w hSw; (try dsimp only at hSw); go_simp))) ?_
           simp only [Act.put, pA, pZ, pS]
           refine tkO 12 (.bool true) (by simp only [gT, gZ, gS]; rfl) (puO (by (intro w hSw; (try dsimp only at hSw); go_simp))) ?_
           refine wpAnyH_done (by kernel_rfl) ?_ _
           go_simp
           go_wp2
           go_ret
           exact ⟨rfl, hb⟩
          case bp124 =>
           rw [if_pos (by rfl)]
           (have hCn : CellsAt _ NB [0] := ful_cells hby rfl)
           (with_reducible refine s_appg (NX + 1) 512 NB 1 1 513 rfl _ _ (fulL bl ++ [0]) hCf hCn HL0.out rfl (by decide) (by decide) HS1.out rfl ?_ ?_ ?_)
           · exact rfl
           · exact rfl
           intro VC N5 cap5 hC2 hbc
           clear hCn
           have hH2 := hide (show B < VC.heap.size from Nat.lt_of_lt_of_le hHeld hbc.size)
           replace hb := hb.trans (hbc.mono (by omega))
           replace hA := hA.bl hbc
           replace hCa := hCa.bl hbc
           replace hCb := hCb.bl hbc
           replace hCf := hCf.bl hbc
           replace hBB := Nat.le_trans hBB hbc.size
           (try replace hC1 := BytesAt.bl hC1 hbc)
           (try replace hby := hby.bl hbc)
           clear hHeld hbc
           refine hK.out _ _ ?_ (fun hHeld => ?_)
           · exact hH2.out
           clear hK K
           clear hH2
           simp only [Act.put, pA, pZ, pS]
           refine wpAnyH_ready (rs := [3, 7]) (by kernel_rfl) (by simp) ?_
           refine AllReadyH.cons (o := ?oip132) ?hip132 (fun K hK => ?bp132) (AllReadyH.cons (o := ?oip133) ?hip133 (fun K hK => ?bp133) (AllReadyH.nil))
           case hip132 => (simp only [List.getElem?_toArray, List.getElem?_cons_zero, List.getElem?_cons_succ]; rfl)
           case hip133 => (simp only [List.getElem?_toArray, List.getElem?_cons_zero, List.getElem?_cons_succ]; rfl)
           case bp132 =>
            rw [if_pos (by rfl)]
            (with_reducible refine s_conv (.slice (some ⟨N3, 0, none⟩) 513 cap3) (.string tx) (HCv.out _ N3 cap3 hC1) ?_ ?_)
            · exact rfl
            have hH2 := hide hHeld
            clear hHeld
            refine hK.out _ _ ?_ (fun hHeld => ?_)
            · exact hH2.out
            clear hK K
            clear hH2
            simp only [Act.put, pA, pZ, pS]
            refine skO 7 (by simp only [gT, gZ, gS]; rfl) (fun K hK => ?_)
            rw [if_pos (by rfl)]
            (with_reducible refine s_conv (.slice (some ⟨N5, 0, none⟩) 513 cap5) (.string tx) (HCv.out _ N5 cap5 hC2) ?_ ?_)
            · exact rfl
            have hH2 := hide hHeld
            clear hHeld
            refine hK.out _ _ ?_ (fun hHeld => ?_)
            · exact hH2.out
            clear hK K
            clear hH2
            simp only [Act.put, pA, pZ, pS]
            refine tkO 8 (.bool true) (by simp only [gT, gZ, gS]; rfl) (puO (by (intro w hSw; (try dsimp only at hSw); go_simp))) ?_
            simp only [Act.put, pA, pZ, pS]
            refine tkO 9 (.bool true) (by simp only [gT, gZ, gS]; rfl) (puO (by (intro w hSw; (try dsimp only at hSw); go_simp))) ?_
            simp only [Act.put, pA, pZ, pS]
            refine skO 10 (by simp only [gT, gZ, gS]; rfl) (fun K hK => ?_)
            rw [if_pos (by rfl)]
            go_simp
            (with_reducible refine (HSu.out _ hA).mono ?_)
            rintro e V9 ⟨rfl, hbc⟩
            have hH2 := hide (show B < V9.heap.size from Nat.lt_of_lt_of_le hHeld hbc.size)
            replace hb := hb.trans (hbc.mono (by omega))
            clear hHeld hbc
            go_simp
            refine hK.out _ _ ?_ (fun hHeld => ?_)
            · exact hH2.out
            clear hK K
            clear hH2
            refine tkO 11 (.bool true) (by simp only [gT, gZ, gS]; rfl) (puO (by (intro w hSw; (try dsimp only at hSw); go_simp))) ?_
            simp only [Act.put, pA, pZ, pS]
            refine tkO 12 (.bool true) (by simp only [gT, gZ, gS]; rfl) (puO (by (intro w hSw; (try dsimp only at hSw); go_simp))) ?_
            refine wpAnyH_done (by kernel_rfl) ?_ _
            go_simp
            go_wp2
            go_ret
            exact ⟨rfl, hb⟩
           case bp133 =>
            rw [if_pos (by rfl)]
            (with_reducible refine s_conv (.slice (some ⟨N5, 0, none⟩) 513 cap5) (.string tx) (HCv.out _ N5 cap5 hC2) ?_ ?_)
            · exact rfl
            have hH2 := hide hHeld
            clear hHeld
            refine hK.out _ _ ?_ (fun hHeld => ?_)
            · exact hH2.out
            clear hK K
            clear hH2
            simp only [Act.put, pA, pZ, pS]
            refine skO 3 (by simp only [gT, gZ, gS]; rfl) (fun K hK => ?_)
            rw [if_pos (by rfl)]
            (with_reducible refine s_conv (.slice (some ⟨N3, 0, none⟩) 513 cap3) (.string tx) (HCv.out _ N3 cap3 hC1) ?_ ?_)
            · exact rfl
            have hH2 := hide hHeld
            clear hHeld
            refine hK.out _ _ ?_ (fun hHeld => ?_)
            · exact hH2.out
            clear hK K
            clear hH2
            simp only [Act.put, pA, pZ, pS]
            refine tkO 8 (.bool true) (by simp only [gT, gZ, gS]; rfl) (puO (by (intro w hSw; (try dsimp only at hSw); go_simp))) ?_
            simp only [Act.put, pA, pZ, pS]
            refine tkO 9 (.bool true) (by simp only [gT, gZ, gS]; rfl) (puO (by (intro w hSw; (try dsimp only at hSw); go_simp))) ?_
            simp only [Act.put, pA, pZ, pS]
            refine skO 10 (by simp only [gT, gZ, gS]; rfl) (fun K hK => ?_)
            rw [if_pos (by rfl)]
            go_simp
            (with_reducible refine (HSu.out _ hA).mono ?_)
            rintro e V9 ⟨rfl, hbc⟩
            have hH2 := hide (show B < V9.heap.size from Nat.lt_of_lt_of_le hHeld hbc.size)
            replace hb := hb.trans (hbc.mono (by omega))
            clear hHeld hbc
            go_simp
            refine hK.out _ _ ?_ (fun hHeld => ?_)
            · exact hH2.out
            clear hK K
            clear hH2
            refine tkO 11 (.bool true) (by simp only [gT, gZ, gS]; rfl) (puO (by (intro w hSw; (try dsimp only at hSw); go_simp))) ?_
            simp only [Act.put, pA, pZ, pS]
            refine tkO 12 (.bool true) (by simp only [gT, gZ, gS]; rfl) (puO (by (intro w hSw; (try dsimp only at hSw); go_simp))) ?_
            refine wpAnyH_done (by kernel_rfl) ?_ _
            go_simp
            go_wp2
            go_ret
            exact ⟨rfl, hb⟩
      · have l1 : (i : Int) < (bl.length : Int) := by omega
        have t2 : decide ((i : Int) < 512) = false := by simp; omega
        have t2n : decide (i < 512) = false := by simp; omega
        go_wp2_with (first | (go_at_call 20; (with_reducible refine (HLi.out _).mono ?_); rintro e W ⟨rfl, hbc⟩; replace hb := hb.trans (hbc.mono (by have := hM.base; omega)); replace hM := hM.bl hbc; replace hA := hA.bl hbc; replace hf := hf.bl hbc; clear hbc) | (go_at_call 12; (with_reducible refine (HPo.out _ _ _ hM hA).mono ?_); rintro e W2 ⟨v1, av, qv, dv, O2, rfl, hM2, hW2, hI, hK⟩; (have hnn := hW2.no hf.lt hnf); replace hf := hW2.row hf hnf; replace hb := hb.trans (hW2.below.mono (by omega)); replace hA := hA.wentR hG hW2; clear hM hnf; have hM := hM2; have hnf := hnn; clear hM2 hW2 hnn; (obtain ⟨ga, ca, cur, rfl, hga, hgo, hgr, k0, k1, k2, k3, k4⟩ := asks_one hK); (have hv1o := own_one hI.row); obtain ⟨NR, hNR0⟩ : ∃ n, W2.heap.size = n := ⟨_, rfl⟩; have hNR := hide hNR0; have hRB : B + 1 + 1 ≤ NR := hNR0 ▸ hM.base; (have hgl : ga < NR := hNR0 ▸ hgr.lt); (have hfl : NX + 1 < NR := hNR0 ▸ hf.lt); (have hil : ∀ g, v1.ownBlock = some g → g < NR := fun g e => hNR0 ▸ (hI.row.lt g e).2); (have hils : ∀ x ∈ [(rdQ k c, qv)], ∀ g, x.2.ownBlock = some g → g < NR := fun x hx g e => hNR0 ▸ ((hI.own x hx).lt g e).2); have hnr : ¬ O2 NR := (fun e => absurd (hM.lt _ e) (by omega)); clear hNR0 hK hga) | ((with_reducible refine al_bk NR ?_ ?_); exact hNR.out; intro W hr hb' hz2; have hbc : Below W2.heap.size W2 W := (by rw [hNR.out]; exact hb'); replace hb := hb.trans (hb'.mono (by omega)); replace hM := hM.bl hbc; replace hA := hA.bl hbc; replace hf := hf.bl hbc; replace hI := hI.bl hbc; replace hgr := hgr.bl hbc; clear hb' hbc hz2 hNR) | ((with_reducible refine st_bk NR _ _ (rdS k c) v1 hv1o hr ?_ ?_ ?_); exact rfl; exact rfl; intro W hnew hoo; replace hM := hM.only hoo hnr; replace hA := hA.onlyR hoo (by omega); replace hb := hoo.bel _ _ (by omega) hb; replace hf := hf.only hoo (by omega); replace hI := hI.only hoo (fun e => absurd (hil _ e) (by omega)) (fun x hx e => absurd (hils x hx _ e) (by omega)); replace hgr := hgr.only hoo (by omega); replace hr := hnew; clear hnew hoo; (obtain ⟨va1, vc1, rfl⟩ := in_one hI)) | ((with_reducible refine ldc_u32 ga 2 _ cur _ hgr k2 ?_ ?_ ?_); exact rfl; exact rfl) | (go_at_call 22; (with_reducible refine (HSt.out _ _ _ _ hM ?_).mono ?_); (first | omega | (simp; omega)); rintro e W2 ⟨rfl, O3, hM2, hW2⟩; (have hnn := hW2.no hf.lt hnf); replace hf := hW2.row hf hnf; replace hb := hb.trans (hW2.below.mono (by omega)); replace hA := hA.wentR hG hW2; (have hnr3 := hW2.no hr.lt hnr); (have hgo3 := hW2.no hgr.lt hgo); replace hr := hW2.row hr hnr; replace hgr := hW2.row hgr hgo; replace hI := hI.went hW2; clear hnr hgo; have hnr := hnr3; have hgo := hgo3; clear hnr3 hgo3; clear hM hnf; have hM := hM2; have hnf := hnn; clear hM2 hW2 hnn))
        refine wp_region_held_drew (S := (fun V => RowAt V NR ((rdS k c).c (.slice va1 1 vc1)) 53 ∧ RowAt V ga cur 81)) (by kernel_rfl) ?_ (fun hHeld => ?_)
        · exact ⟨hr.dr, hgr.dr⟩
        replace hM := hM.dr
        replace hA := hA.drR
        replace hb := hb.drew
        replace hI := hI.dr
        replace hf := hf.dr
        have hNl : NR < (World.drew _).heap.size := hr.lt
        generalize World.drew _ = V at hHeld hM hA hb hI hNl hf ⊢
        clear hr hgr
        refine tkO 0 (.agg ((rdS k c).c (.slice va1 1 vc1))) (by simp only [gT, gZ]; rfl) (y_bk NR (rdS k c) (.slice va1 1 vc1) (fun V hV => hV.1) rfl rfl) ?_
        simp only [Act.put, pA, pZ, pS]
        refine tkO 1 (.pointer (some ⟨b, 0, none⟩)) (by simp only [gT, gZ, gS]; rfl) (puO (by (intro w hSw; (try dsimp only at hSw); go_simp))) ?_
        simp only [Act.put, pA, pZ, pS]
        refine tkO 2 (.slice (some ⟨ga, 0, none⟩) 1 ca) (by simp only [gT, gZ, gS]; rfl) (puO (by (intro w hSw; (try dsimp only at hSw); go_simp))) ?_
        simp only [Act.put, pA, pZ, pS]
        refine tkO 3 (.pointer (some ⟨ga, 0, none⟩)) (by simp only [gT, gZ, gS]; rfl) (puO (by (intro w hSw; (try dsimp only at hSw); go_simp))) ?_
        simp only [Act.put, pA, pZ, pS]
        refine tkO 4 (.pointer (some ⟨ga, 0, none⟩)) (by simp only [gT, gZ, gS]; rfl) (puO (by (intro w hSw; (try dsimp only at hSw); go_simp))) ?_
        simp only [Act.put, pA, pZ, pS]
        refine tkO 5 (.int .u32 0) (by simp only [gT, gZ, gS]; rfl) (y_cellg ga 0 _ (fun V hV => (hV.2.cell 0).trans k0) _ Tryz.underlying22 rfl rfl (by rfl)) ?_
        simp only [Act.put, pA, pZ, pS]
        refine tkO 6 (.slice (some ⟨NX + 1, 0, none⟩) 512 512) (by simp only [gT, gZ, gS]; rfl) (puO (by (intro w hSw; (try dsimp only at hSw); go_simp))) ?_
        simp only [Act.put, pA, pZ, pS]
        refine wpAnyH_ready (rs := [7, 11]) (by kernel_rfl) (by simp) ?_
        refine AllReadyH.cons (o := ?oiq8) ?hiq8 (fun K hK => ?bq8) (AllReadyH.cons (o := ?oiq9) ?hiq9 (fun K hK => ?bq9) AllReadyH.nil)
        case hiq8 => (simp only [List.getElem?_toArray, List.getElem?_cons_zero, List.getElem?_cons_succ]; rfl)
        case hiq9 => (simp only [List.getElem?_toArray, List.getElem?_cons_zero, List.getElem?_cons_succ]; rfl)
        case bq8 =>
         rw [if_pos (by rfl)]
         go_simp
         (with_reducible refine (HFi.out _ _ _ _ _ _ _ hM hA hI (HFO.out _ _ _ hf HFE.out).1).mono ?_)
         rintro e V4 ⟨v2, O4, rfl, hM3, hW3, hI2⟩
         have hH2 := hide (And.intro (hW3.row hHeld.1 hnr) (hW3.row hHeld.2 hgo))
         (have hv2o := own_one hI2.row)
         (have hnf3 := hW3.no hf.lt hnf)
         replace hf := hW3.row hf hnf
         clear hnf
         (have hnf := hnf3)
         clear hnf3
         replace hb := hb.trans (hW3.below.mono (by omega))
         replace hA := hA.wentR hG hW3
         replace hNl := Nat.lt_of_lt_of_le hNl hW3.size
         (have hBl : B + 1 + 1 ≤ V4.heap.size := by omega)
         (obtain ⟨va2, vc2, rfl⟩ := in_none hI2)
         clear hM hI hW3 hHeld hI2
         go_simp
         refine hK.out _ _ ?_ (fun hHeld => ?_)
         · exact hH2.out
         clear hK K
         clear hH2
         refine tkO 8 (.tuple #[.agg (s3.c (.slice va2 0 vc2)), .nilIface]) (by simp only [gT, gZ, gS]; rfl) (puO (by (intro w hSw; (try dsimp only at hSw); go_simp))) ?_
         simp only [Act.put, pA, pZ, pS]
         refine tkO 9 (.agg (s3.c (.slice va2 0 vc2))) (by simp only [gT, gZ, gS]; rfl) (puO (by (intro w hSw; (try dsimp only at hSw); go_simp))) ?_
         simp only [Act.put, pA, pZ, pS]
         refine tkO 10 (.nilIface) (by simp only [gT, gZ, gS]; rfl) (puO (by (intro w hSw; (try dsimp only at hSw); go_simp))) ?_
         simp only [Act.put, pA, pZ, pS]
         refine skO 11 (by simp only [gT, gZ, gS]; rfl) (fun K hK => ?_)
         rw [if_pos (by rfl)]
         (obtain ⟨NT, hNT0⟩ : ∃ n, V4.heap.size = n := ⟨_, rfl⟩)
         (with_reducible refine s_alc NT ?_ (zeroBk.c nilS) zero_bk ?_)
         · exact hNT0
         intro V3 ht hbc hz
         rw [← hNT0] at hbc
         (have hNRT : NR < NT := hNT0 ▸ hNl)
         (have hgT : ga < NT := hNT0 ▸ hHeld.2.lt)
         (have hnt : ¬ O4 NT := fun e => absurd (hM3.lt _ e) (by omega))
         clear hz hNT0
         have hH2 := hide (And.intro (hHeld.1.bl hbc) (hHeld.2.bl hbc))
         replace hb := hb.trans (hbc.mono (by omega))
         replace hM3 := hM3.bl hbc
         replace hA := hA.bl hbc
         replace hf := hf.bl hbc
         replace hNl := Nat.lt_of_lt_of_le hNl hbc.size
         clear hHeld hbc
         refine hK.out _ _ ?_ (fun hHeld => ?_)
         · exact hH2.out
         clear hK K
         clear hH2
         refine skO 12 (by simp only [gT, gZ, gS]; rfl) (fun K hK => ?_)
         rw [if_pos (by rfl)]
         (with_reducible refine s_bk NT _ _ s3 (.slice va2 0 vc2) hv2o ht ?_ ?_ ?_)
         · exact rfl
         · exact rfl
         intro V5 hnew hoo
         have hH2 := hide (And.intro (hHeld.1.only hoo (by omega)) (hHeld.2.only hoo (by omega)))
         replace hM3 := hM3.only hoo hnt
         replace hA := hA.onlyR hoo (by omega)
         replace hb := hoo.bel _ _ (by omega) hb
         replace hf := hf.only hoo (by omega)
         clear ht
         (have ht := hnew)
         clear hHeld hoo hnew
         refine hK.out _ _ ?_ (fun hHeld => ?_)
         · exact hH2.out
         clear hK K
         clear hH2
         refine tkO 13 (.nilIface) (by simp only [gT, gZ, gS]; rfl) (puO (by (intro w hSw; (try dsimp only at hSw); go_simp))) ?_
         simp only [Act.put, pA, pZ, pS]
         refine wpAnyH_done (by kernel_rfl) ?_ _
         go_simp
         go_wp2_with (first | (go_at_call 14; (with_reducible refine (HR1.out _ _ _ hM3).mono ?_); rintro e W6 ⟨NA, rfl, hCa, O6, hM6, hW6, hnA⟩; (have hnf3 := hW6.no hf.lt hnf); replace hf := hW6.row hf hnf; clear hnf; (have hnf := hnf3); clear hnf3; (have hnt3 := hW6.no ht.lt hnt); replace ht := hW6.row ht hnt; clear hnt; (have hnt := hnt3); clear hnt3; replace hb := hb.trans (hW6.below.mono (by omega)); replace hA := hA.wentR hG hW6; clear hM3; (have hM3 := hM6); clear hM6 hW6) | (go_at_call 14; (with_reducible refine (HR2.out _ _ _ _ hM3 ?_).mono ?_); (first | omega | (simp; omega)); rintro e W7 ⟨NC, rfl, hCb, O7, hM6, hW6, hnB⟩; replace hCa := hCa.went hW6 hnA; (have hnf3 := hW6.no hf.lt hnf); replace hf := hW6.row hf hnf; clear hnf; (have hnf := hnf3); clear hnf3; (have hnt3 := hW6.no ht.lt hnt); replace ht := hW6.row ht hnt; clear hnt; (have hnt := hnt3); clear hnt3; replace hb := hb.trans (hW6.below.mono (by omega)); replace hA := hA.wentR hG hW6; clear hM3; (have hM3 := hM6); clear hM6 hW6) | ((with_reducible refine ld_bin NT s3 _ _ ht ?_ ?_ ?_); exact rfl; exact rfl))
         have hCf := (HFO.out _ _ _ hf HFE.out).2
         refine wp_region_held_drew (S := (fun V => B < V.heap.size)) (by kernel_rfl) ?_ (fun hHeld => ?_)
         · exact (show B < (World.drew _).heap.size from Nat.lt_of_lt_of_le (by omega) hM3.base)
         replace hb := hb.drew
         replace hA := hA.drR
         replace hCa := hCa.dr
         replace hCb := hCb.dr
         replace hCf := hCf.dr
         have hBB : B + 1 + 1 ≤ (World.drew _).heap.size := hM3.base
         clear hM3 ht hf hnt hnf
         generalize World.drew _ = V at hHeld hb hA hCa hCb hCf hBB ⊢
         refine tkO 0 (.slice (some ⟨NA, 0, none⟩) c c) (by simp only [gT, gZ]; rfl) (puO (by (intro w hSw; (try dsimp only at hSw); go_simp))) ?_
         simp only [Act.put, pA, pZ, pS]
         refine tkO 1 (.slice (some ⟨NC, 0, none⟩) (513 - c) (513 - c)) (by simp only [gT, gZ, gS]; rfl) (puO (by (intro w hSw; (try dsimp only at hSw); go_simp))) ?_
         simp only [Act.put, pA, pZ, pS]
         refine tkO 4 (.slice (some ⟨NX + 1, 0, none⟩) 512 512) (by simp only [gT, gZ, gS]; rfl) (puO (by (intro w hSw; (try dsimp only at hSw); go_simp))) ?_
         simp only [Act.put, pA, pZ, pS]
         refine wpAnyH_ready (rs := [2, 5]) (by kernel_rfl) (by simp) ?_
         refine AllReadyH.cons (o := ?oiq19) ?hiq19 (fun K hK => ?bq19) (AllReadyH.cons (o := ?oiq20) ?hiq20 (fun K hK => ?bq20) (AllReadyH.nil))
         case hiq19 => (simp only [List.getElem?_toArray, List.getElem?_cons_zero, List.getElem?_cons_succ]; rfl)
         case hiq20 => (simp only [List.getElem?_toArray, List.getElem?_cons_zero, List.getElem?_cons_succ]; rfl)
         case bq19 =>
          rw [if_pos (by rfl)]
          (with_reducible refine s_appg NA c NC (513 - c) (513 - c) 513 hc513 _ _ (fulL bl ++ [0]) hCa hCb HL1.out HL2.out (by omega) (by omega) HS1.out HTD.out ?_ ?_ ?_)
          · exact rfl
          · exact rfl
          intro VA N3 cap3 hC1 hbc
          have hH2 := hide (show B < VA.heap.size from Nat.lt_of_lt_of_le hHeld hbc.size)
          replace hb := hb.trans (hbc.mono (by omega))
          replace hA := hA.bl hbc
          replace hCa := hCa.bl hbc
          replace hCb := hCb.bl hbc
          replace hCf := hCf.bl hbc
          replace hBB := Nat.le_trans hBB hbc.size
          (try replace hC2 := BytesAt.bl hC2 hbc)
          (try replace hby := hby.bl hbc)
          clear hHeld hbc
          refine hK.out _ _ ?_ (fun hHeld => ?_)
          · exact hH2.out
          clear hK K
          clear hH2
          simp only [Act.put, pA, pZ, pS]
          refine wpAnyH_ready (rs := [3, 5]) (by kernel_rfl) (by simp) ?_
          refine AllReadyH.cons (o := ?oiq21) ?hiq21 (fun K hK => ?bq21) (AllReadyH.cons (o := ?oiq22) ?hiq22 (fun K hK => ?bq22) (AllReadyH.nil))
          case hiq21 => (simp only [List.getElem?_toArray, List.getElem?_cons_zero, List.getElem?_cons_succ]; rfl)
          case hiq22 => (simp only [List.getElem?_toArray, List.getElem?_cons_zero, List.getElem?_cons_succ]; rfl)
          case bq21 =>
           rw [if_pos (by rfl)]
           (with_reducible refine s_conv (.slice (some ⟨N3, 0, none⟩) 513 cap3) (.string tx) (HCv.out _ N3 cap3 hC1) ?_ ?_)
           · exact rfl
           have hH2 := hide hHeld
           clear hHeld
           refine hK.out _ _ ?_ (fun hHeld => ?_)
           · exact hH2.out
           clear hK K
           clear hH2
           simp only [Act.put, pA, pZ, pS]
           refine skO 5 (by simp only [gT, gZ, gS]; rfl) (fun K hK => ?_)
           rw [if_pos (by rfl)]
           (obtain ⟨NB, hNB0⟩ : ∃ n, VA.heap.size = n := ⟨_, rfl⟩)
           (with_reducible refine s_bsr 37 5 1 Tryz.underlying37 #[.int .u8 (0 : Nat)] NB ?_ [(0, .int .u8 (0 : Nat))] ?_ (bs_byte 0) ?_)
           · exact hNB0
           · first | rfl | (simp; done) | kernel_rfl
           intro VB hby hbc hz3
           rw [← hNB0] at hbc
           clear hNB0 hz3
           have hH2 := hide (show B < VB.heap.size from Nat.lt_of_lt_of_le hHeld hbc.size)
           replace hb := hb.trans (hbc.mono (by omega))
           replace hA := hA.bl hbc
           replace hCa := hCa.bl hbc
           replace hCb := hCb.bl hbc
           replace hCf := hCf.bl hbc
           replace hBB := Nat.le_trans hBB hbc.size
           (try replace hC1 := BytesAt.bl hC1 hbc)
           (try replace hC2 := BytesAt.bl hC2 hbc)
           clear hHeld hbc
           refine hK.out _ _ ?_ (fun hHeld => ?_)
           · exact hH2.out
           clear hK K
           clear hH2
           simp only [Act.put, pA, pZ, pS]
           refine skO 6 (by simp only [gT, gZ, gS]; rfl) (fun K hK => ?_)
           rw [if_pos (by rfl)]
           (have hCn : CellsAt _ NB [0] := ful_cells hby rfl)
           (with_reducible refine s_appg (NX + 1) 512 NB 1 1 513 rfl _ _ (fulL bl ++ [0]) hCf hCn HL0.out rfl (by decide) (by decide) HS1.out rfl ?_ ?_ ?_)
           · exact rfl
           · exact rfl
           intro VC N5 cap5 hC2 hbc
           clear hCn
           have hH2 := hide (show B < VC.heap.size from Nat.lt_of_lt_of_le hHeld hbc.size)
           replace hb := hb.trans (hbc.mono (by omega))
           replace hA := hA.bl hbc
           replace hCa := hCa.bl hbc
           replace hCb := hCb.bl hbc
           replace hCf := hCf.bl hbc
           replace hBB := Nat.le_trans hBB hbc.size
           (try replace hC1 := BytesAt.bl hC1 hbc)
           (try replace hby := hby.bl hbc)
           clear hHeld hbc
           refine hK.out _ _ ?_ (fun hHeld => ?_)
           · exact hH2.out
           clear hK K
           clear hH2
           simp only [Act.put, pA, pZ, pS]
           refine skO 7 (by simp only [gT, gZ, gS]; rfl) (fun K hK => ?_)
           rw [if_pos (by rfl)]
           (with_reducible refine s_conv (.slice (some ⟨N5, 0, none⟩) 513 cap5) (.string tx) (HCv.out _ N5 cap5 hC2) ?_ ?_)
           · exact rfl
           have hH2 := hide hHeld
           clear hHeld
           refine hK.out _ _ ?_ (fun hHeld => ?_)
           · exact hH2.out
           clear hK K
           clear hH2
           simp only [Act.put, pA, pZ, pS]
           refine tkO 8 (.bool true) (by simp only [gT, gZ, gS]; rfl) (puO (by (intro w hSw; (try dsimp only at hSw); go_simp))) ?_
           simp only [Act.put, pA, pZ, pS]
           refine tkO 9 (.bool true) (by simp only [gT, gZ, gS]; rfl) (puO (by (intro w hSw; (try dsimp only at hSw); go_simp))) ?_
           simp only [Act.put, pA, pZ, pS]
           refine skO 10 (by simp only [gT, gZ, gS]; rfl) (fun K hK => ?_)
           rw [if_pos (by rfl)]
           go_simp
           (with_reducible refine (HSu.out _ hA).mono ?_)
           rintro e V9 ⟨rfl, hbc⟩
           have hH2 := hide (show B < V9.heap.size from Nat.lt_of_lt_of_le hHeld hbc.size)
           replace hb := hb.trans (hbc.mono (by omega))
           clear hHeld hbc
           go_simp
           refine hK.out _ _ ?_ (fun hHeld => ?_)
           · exact hH2.out
           clear hK K
           clear hH2
           refine tkO 11 (.bool true) (by simp only [gT, gZ, gS]; rfl) (puO (by (intro w hSw; (try dsimp only at hSw); go_simp))) ?_
           simp only [Act.put, pA, pZ, pS]
           refine tkO 12 (.bool true) (by simp only [gT, gZ, gS]; rfl) (puO (by (intro w hSw; (try dsimp only at hSw); go_simp))) ?_
           refine wpAnyH_done (by kernel_rfl) ?_ _
           go_simp
           go_wp2
           go_ret
           exact ⟨rfl, hb⟩
          case bq22 =>
           rw [if_pos (by rfl)]
           (obtain ⟨NB, hNB0⟩ : ∃ n, VA.heap.size = n := ⟨_, rfl⟩)
           (with_reducible refine s_bsr 37 5 1 Tryz.underlying37 #[.int .u8 (0 : Nat)] NB ?_ [(0, .int .u8 (0 : Nat))] ?_ (bs_byte 0) ?_)
           · exact hNB0
           · first | rfl | (simp; done) | kernel_rfl
           intro VB hby hbc hz3
           rw [← hNB0] at hbc
           clear hNB0 hz3
           have hH2 := hide (show B < VB.heap.size from Nat.lt_of_lt_of_le hHeld hbc.size)
           replace hb := hb.trans (hbc.mono (by omega))
           replace hA := hA.bl hbc
           replace hCa := hCa.bl hbc
           replace hCb := hCb.bl hbc
           replace hCf := hCf.bl hbc
           replace hBB := Nat.le_trans hBB hbc.size
           (try replace hC1 := BytesAt.bl hC1 hbc)
           (try replace hC2 := BytesAt.bl hC2 hbc)
           clear hHeld hbc
           refine hK.out _ _ ?_ (fun hHeld => ?_)
           · exact hH2.out
           clear hK K
           clear hH2
           simp only [Act.put, pA, pZ, pS]
           refine wpAnyH_ready (rs := [3, 6]) (by kernel_rfl) (by simp) ?_
           refine AllReadyH.cons (o := ?oiq31) ?hiq31 (fun K hK => ?bq31) (AllReadyH.cons (o := ?oiq32) ?hiq32 (fun K hK => ?bq32) (AllReadyH.nil))
           case hiq31 => (simp only [List.getElem?_toArray, List.getElem?_cons_zero, List.getElem?_cons_succ]; rfl)
           case hiq32 => (simp only [List.getElem?_toArray, List.getElem?_cons_zero, List.getElem?_cons_succ]; rfl)
           case bq31 =>
            rw [if_pos (by rfl)]
            (with_reducible refine s_conv (.slice (some ⟨N3, 0, none⟩) 513 cap3) (.string tx) (HCv.out _ N3 cap3 hC1) ?_ ?_)
            · exact rfl
            have hH2 := hide hHeld
            clear hHeld
            refine hK.out _ _ ?_ (fun hHeld => ?_)
            · exact hH2.out
            clear hK K
            clear hH2
            simp only [Act.put, pA, pZ, pS]
            refine skO 6 (by simp only [gT, gZ, gS]; rfl) (fun K hK => ?_)
            rw [if_pos (by rfl)]
            (have hCn : CellsAt _ NB [0] := ful_cells hby rfl)
            (with_reducible refine s_appg (NX + 1) 512 NB 1 1 513 rfl _ _ (fulL bl ++ [0]) hCf hCn HL0.out rfl (by decide) (by decide) HS1.out rfl ?_ ?_ ?_)
            · exact rfl
            · exact rfl
            intro VC N5 cap5 hC2 hbc
            clear hCn
            have hH2 := hide (show B < VC.heap.size from Nat.lt_of_lt_of_le hHeld hbc.size)
            replace hb := hb.trans (hbc.mono (by omega))
            replace hA := hA.bl hbc
            replace hCa := hCa.bl hbc
            replace hCb := hCb.bl hbc
            replace hCf := hCf.bl hbc
            replace hBB := Nat.le_trans hBB hbc.size
            (try replace hC1 := BytesAt.bl hC1 hbc)
            (try replace hby := hby.bl hbc)
            clear hHeld hbc
            refine hK.out _ _ ?_ (fun hHeld => ?_)
            · exact hH2.out
            clear hK K
            clear hH2
            simp only [Act.put, pA, pZ, pS]
            refine skO 7 (by simp only [gT, gZ, gS]; rfl) (fun K hK => ?_)
            rw [if_pos (by rfl)]
            (with_reducible refine s_conv (.slice (some ⟨N5, 0, none⟩) 513 cap5) (.string tx) (HCv.out _ N5 cap5 hC2) ?_ ?_)
            · exact rfl
            have hH2 := hide hHeld
            clear hHeld
            refine hK.out _ _ ?_ (fun hHeld => ?_)
            · exact hH2.out
            clear hK K
            clear hH2
            simp only [Act.put, pA, pZ, pS]
            refine tkO 8 (.bool true) (by simp only [gT, gZ, gS]; rfl) (puO (by (intro w hSw; (try dsimp only at hSw); go_simp))) ?_
            simp only [Act.put, pA, pZ, pS]
            refine tkO 9 (.bool true) (by simp only [gT, gZ, gS]; rfl) (puO (by (intro w hSw; (try dsimp only at hSw); go_simp))) ?_
            simp only [Act.put, pA, pZ, pS]
            refine skO 10 (by simp only [gT, gZ, gS]; rfl) (fun K hK => ?_)
            rw [if_pos (by rfl)]
            go_simp
            (with_reducible refine (HSu.out _ hA).mono ?_)
            rintro e V9 ⟨rfl, hbc⟩
            have hH2 := hide (show B < V9.heap.size from Nat.lt_of_lt_of_le hHeld hbc.size)
            replace hb := hb.trans (hbc.mono (by omega))
            clear hHeld hbc
            go_simp
            refine hK.out _ _ ?_ (fun hHeld => ?_)
            · exact hH2.out
            clear hK K
            clear hH2
            refine tkO 11 (.bool true) (by simp only [gT, gZ, gS]; rfl) (puO (by (intro w hSw; (try dsimp only at hSw); go_simp))) ?_
            simp only [Act.put, pA, pZ, pS]
            refine tkO 12 (.bool true) (by simp only [gT, gZ, gS]; rfl) (puO (by (intro w hSw; (try dsimp only at hSw); go_simp))) ?_
            refine wpAnyH_done (by kernel_rfl) ?_ _
            go_simp
            go_wp2
            go_ret
            exact ⟨rfl, hb⟩
           case bq32 =>
            rw [if_pos (by rfl)]
            (have hCn : CellsAt _ NB [0] := ful_cells hby rfl)
            (with_reducible refine s_appg (NX + 1) 512 NB 1 1 513 rfl _ _ (fulL bl ++ [0]) hCf hCn HL0.out rfl (by decide) (by decide) HS1.out rfl ?_ ?_ ?_)
            · exact rfl
            · exact rfl
            intro VC N5 cap5 hC2 hbc
            clear hCn
            have hH2 := hide (show B < VC.heap.size from Nat.lt_of_lt_of_le hHeld hbc.size)
            replace hb := hb.trans (hbc.mono (by omega))
            replace hA := hA.bl hbc
            replace hCa := hCa.bl hbc
            replace hCb := hCb.bl hbc
            replace hCf := hCf.bl hbc
            replace hBB := Nat.le_trans hBB hbc.size
            (try replace hC1 := BytesAt.bl hC1 hbc)
            (try replace hby := hby.bl hbc)
            clear hHeld hbc
            refine hK.out _ _ ?_ (fun hHeld => ?_)
            · exact hH2.out
            clear hK K
            clear hH2
            simp only [Act.put, pA, pZ, pS]
            refine wpAnyH_ready (rs := [3, 7]) (by kernel_rfl) (by simp) ?_
            refine AllReadyH.cons (o := ?oiq40) ?hiq40 (fun K hK => ?bq40) (AllReadyH.cons (o := ?oiq41) ?hiq41 (fun K hK => ?bq41) (AllReadyH.nil))
            case hiq40 => (simp only [List.getElem?_toArray, List.getElem?_cons_zero, List.getElem?_cons_succ]; rfl)
            case hiq41 => (simp only [List.getElem?_toArray, List.getElem?_cons_zero, List.getElem?_cons_succ]; rfl)
            case bq40 =>
             rw [if_pos (by rfl)]
             (with_reducible refine s_conv (.slice (some ⟨N3, 0, none⟩) 513 cap3) (.string tx) (HCv.out _ N3 cap3 hC1) ?_ ?_)
             · exact rfl
             have hH2 := hide hHeld
             clear hHeld
             refine hK.out _ _ ?_ (fun hHeld => ?_)
             · exact hH2.out
             clear hK K
             clear hH2
             simp only [Act.put, pA, pZ, pS]
             refine skO 7 (by simp only [gT, gZ, gS]; rfl) (fun K hK => ?_)
             rw [if_pos (by rfl)]
             (with_reducible refine s_conv (.slice (some ⟨N5, 0, none⟩) 513 cap5) (.string tx) (HCv.out _ N5 cap5 hC2) ?_ ?_)
             · exact rfl
             have hH2 := hide hHeld
             clear hHeld
             refine hK.out _ _ ?_ (fun hHeld => ?_)
             · exact hH2.out
             clear hK K
             clear hH2
             simp only [Act.put, pA, pZ, pS]
             refine tkO 8 (.bool true) (by simp only [gT, gZ, gS]; rfl) (puO (by (intro w hSw; (try dsimp only at hSw); go_simp))) ?_
             simp only [Act.put, pA, pZ, pS]
             refine tkO 9 (.bool true) (by simp only [gT, gZ, gS]; rfl) (puO (by (intro w hSw; (try dsimp only at hSw); go_simp))) ?_
             simp only [Act.put, pA, pZ, pS]
             refine skO 10 (by simp only [gT, gZ, gS]; rfl) (fun K hK => ?_)
             rw [if_pos (by rfl)]
             go_simp
             (with_reducible refine (HSu.out _ hA).mono ?_)
             rintro e V9 ⟨rfl, hbc⟩
             have hH2 := hide (show B < V9.heap.size from Nat.lt_of_lt_of_le hHeld hbc.size)
             replace hb := hb.trans (hbc.mono (by omega))
             clear hHeld hbc
             go_simp
             refine hK.out _ _ ?_ (fun hHeld => ?_)
             · exact hH2.out
             clear hK K
             clear hH2
             refine tkO 11 (.bool true) (by simp only [gT, gZ, gS]; rfl) (puO (by (intro w hSw; (try dsimp only at hSw); go_simp))) ?_
             simp only [Act.put, pA, pZ, pS]
             refine tkO 12 (.bool true) (by simp only [gT, gZ, gS]; rfl) (puO (by (intro w hSw; (try dsimp only at hSw); go_simp))) ?_
             refine wpAnyH_done (by kernel_rfl) ?_ _
             go_simp
             go_wp2
             go_ret
             exact ⟨rfl, hb⟩
            case bq41 =>
             rw [if_pos (by rfl)]
             (with_reducible refine s_conv (.slice (some ⟨N5, 0, none⟩) 513 cap5) (.string tx) (HCv.out _ N5 cap5 hC2) ?_ ?_)
             · exact rfl
             have hH2 := hide hHeld
             clear hHeld
             refine hK.out _ _ ?_ (fun hHeld => ?_)
             · exact hH2.out
             clear hK K
             clear hH2
             simp only [Act.put, pA, pZ, pS]
             refine skO 3 (by simp only [gT, gZ, gS]; rfl) (fun K hK => ?_)
             rw [if_pos (by rfl)]
             (with_reducible refine s_conv (.slice (some ⟨N3, 0, none⟩) 513 cap3) (.string tx) (HCv.out _ N3 cap3 hC1) ?_ ?_)
             · exact rfl
             have hH2 := hide hHeld
             clear hHeld
             refine hK.out _ _ ?_ (fun hHeld => ?_)
             · exact hH2.out
             clear hK K
             clear hH2
             simp only [Act.put, pA, pZ, pS]
             refine tkO 8 (.bool true) (by simp only [gT, gZ, gS]; rfl) (puO (by (intro w hSw; (try dsimp only at hSw); go_simp))) ?_
             simp only [Act.put, pA, pZ, pS]
             refine tkO 9 (.bool true) (by simp only [gT, gZ, gS]; rfl) (puO (by (intro w hSw; (try dsimp only at hSw); go_simp))) ?_
             simp only [Act.put, pA, pZ, pS]
             refine skO 10 (by simp only [gT, gZ, gS]; rfl) (fun K hK => ?_)
             rw [if_pos (by rfl)]
             go_simp
             (with_reducible refine (HSu.out _ hA).mono ?_)
             rintro e V9 ⟨rfl, hbc⟩
             have hH2 := hide (show B < V9.heap.size from Nat.lt_of_lt_of_le hHeld hbc.size)
             replace hb := hb.trans (hbc.mono (by omega))
             clear hHeld hbc
             go_simp
             refine hK.out _ _ ?_ (fun hHeld => ?_)
             · exact hH2.out
             clear hK K
             clear hH2
             refine tkO 11 (.bool true) (by simp only [gT, gZ, gS]; rfl) (puO (by (intro w hSw; (try dsimp only at hSw); go_simp))) ?_
             simp only [Act.put, pA, pZ, pS]
             refine tkO 12 (.bool true) (by simp only [gT, gZ, gS]; rfl) (puO (by (intro w hSw; (try dsimp only at hSw); go_simp))) ?_
             refine wpAnyH_done (by kernel_rfl) ?_ _
             go_simp
             go_wp2
             go_ret
             exact ⟨rfl, hb⟩
         case bq20 =>
          rw [if_pos (by rfl)]
          (obtain ⟨NB, hNB0⟩ : ∃ n, V.heap.size = n := ⟨_, rfl⟩)
          (with_reducible refine s_bsr 37 5 1 Tryz.underlying37 #[.int .u8 (0 : Nat)] NB ?_ [(0, .int .u8 (0 : Nat))] ?_ (bs_byte 0) ?_)
          · exact hNB0
          · first | rfl | (simp; done) | kernel_rfl
          intro VB hby hbc hz3
          rw [← hNB0] at hbc
          clear hNB0 hz3
          have hH2 := hide (show B < VB.heap.size from Nat.lt_of_lt_of_le hHeld hbc.size)
          replace hb := hb.trans (hbc.mono (by omega))
          replace hA := hA.bl hbc
          replace hCa := hCa.bl hbc
          replace hCb := hCb.bl hbc
          replace hCf := hCf.bl hbc
          replace hBB := Nat.le_trans hBB hbc.size
          (try replace hC1 := BytesAt.bl hC1 hbc)
          (try replace hC2 := BytesAt.bl hC2 hbc)
          clear hHeld hbc
          refine hK.out _ _ ?_ (fun hHeld => ?_)
          · exact hH2.out
          clear hK K
          clear hH2
          simp only [Act.put, pA, pZ, pS]
          refine skO 2 (by simp only [gT, gZ, gS]; rfl) (fun K hK => ?_)
          rw [if_pos (by rfl)]
          (with_reducible refine s_appg NA c NC (513 - c) (513 - c) 513 hc513 _ _ (fulL bl ++ [0]) hCa hCb HL1.out HL2.out (by omega) (by omega) HS1.out HTD.out ?_ ?_ ?_)
          · exact rfl
          · exact rfl
          intro VA N3 cap3 hC1 hbc
          have hH2 := hide (show B < VA.heap.size from Nat.lt_of_lt_of_le hHeld hbc.size)
          replace hb := hb.trans (hbc.mono (by omega))
          replace hA := hA.bl hbc
          replace hCa := hCa.bl hbc
          replace hCb := hCb.bl hbc
          replace hCf := hCf.bl hbc
          replace hBB := Nat.le_trans hBB hbc.size
          (try replace hC2 := BytesAt.bl hC2 hbc)
          (try replace hby := hby.bl hbc)
          clear hHeld hbc
          refine hK.out _ _ ?_ (fun hHeld => ?_)
          · exact hH2.out
          clear hK K
          clear hH2
          simp only [Act.put, pA, pZ, pS]
          refine wpAnyH_ready (rs := [3, 6]) (by kernel_rfl) (by simp) ?_
          refine AllReadyH.cons (o := ?oiq55) ?hiq55 (fun K hK => ?bq55) (AllReadyH.cons (o := ?oiq56) ?hiq56 (fun K hK => ?bq56) (AllReadyH.nil))
          case hiq55 => (simp only [List.getElem?_toArray, List.getElem?_cons_zero, List.getElem?_cons_succ]; rfl)
          case hiq56 => (simp only [List.getElem?_toArray, List.getElem?_cons_zero, List.getElem?_cons_succ]; rfl)
          case bq55 =>
           rw [if_pos (by rfl)]
           (with_reducible refine s_conv (.slice (some ⟨N3, 0, none⟩) 513 cap3) (.string tx) (HCv.out _ N3 cap3 hC1) ?_ ?_)
           · exact rfl
           have hH2 := hide hHeld
           clear hHeld
           refine hK.out _ _ ?_ (fun hHeld => ?_)
           · exact hH2.out
           clear hK K
           clear hH2
           simp only [Act.put, pA, pZ, pS]
           refine skO 6 (by simp only [gT, gZ, gS]; rfl) (fun K hK => ?_)
           rw [if_pos (by rfl)]
           (have hCn : CellsAt _ NB [0] := ful_cells hby rfl)
           (with_reducible refine s_appg (NX + 1) 512 NB 1 1 513 rfl _ _ (fulL bl ++ [0]) hCf hCn HL0.out rfl (by decide) (by decide) HS1.out rfl ?_ ?_ ?_)
           · exact rfl
           · exact rfl
           intro VC N5 cap5 hC2 hbc
           clear hCn
           have hH2 := hide (show B < VC.heap.size from Nat.lt_of_lt_of_le hHeld hbc.size)
           replace hb := hb.trans (hbc.mono (by omega))
           replace hA := hA.bl hbc
           replace hCa := hCa.bl hbc
           replace hCb := hCb.bl hbc
           replace hCf := hCf.bl hbc
           replace hBB := Nat.le_trans hBB hbc.size
           (try replace hC1 := BytesAt.bl hC1 hbc)
           (try replace hby := hby.bl hbc)
           clear hHeld hbc
           refine hK.out _ _ ?_ (fun hHeld => ?_)
           · exact hH2.out
           clear hK K
           clear hH2
           simp only [Act.put, pA, pZ, pS]
           refine skO 7 (by simp only [gT, gZ, gS]; rfl) (fun K hK => ?_)
           rw [if_pos (by rfl)]
           (with_reducible refine s_conv (.slice (some ⟨N5, 0, none⟩) 513 cap5) (.string tx) (HCv.out _ N5 cap5 hC2) ?_ ?_)
           · exact rfl
           have hH2 := hide hHeld
           clear hHeld
           refine hK.out _ _ ?_ (fun hHeld => ?_)
           · exact hH2.out
           clear hK K
           clear hH2
           simp only [Act.put, pA, pZ, pS]
           refine tkO 8 (.bool true) (by simp only [gT, gZ, gS]; rfl) (puO (by (intro w hSw; (try dsimp only at hSw); go_simp))) ?_
           simp only [Act.put, pA, pZ, pS]
           refine tkO 9 (.bool true) (by simp only [gT, gZ, gS]; rfl) (puO (by (intro w hSw; (try dsimp only at hSw); go_simp))) ?_
           simp only [Act.put, pA, pZ, pS]
           refine skO 10 (by simp only [gT, gZ, gS]; rfl) (fun K hK => ?_)
           rw [if_pos (by rfl)]
           go_simp
           (with_reducible refine (HSu.out _ hA).mono ?_)
           rintro e V9 ⟨rfl, hbc⟩
           have hH2 := hide (show B < V9.heap.size from Nat.lt_of_lt_of_le hHeld hbc.size)
           replace hb := hb.trans (hbc.mono (by omega))
           clear hHeld hbc
           go_simp
           refine hK.out _ _ ?_ (fun hHeld => ?_)
           · exact hH2.out
           clear hK K
           clear hH2
           refine tkO 11 (.bool true) (by simp only [gT, gZ, gS]; rfl) (puO (by (intro w hSw; (try dsimp only at hSw); go_simp))) ?_
           simp only [Act.put, pA, pZ, pS]
           refine tkO 12 (.bool true) (by simp only [gT, gZ, gS]; rfl) (puO (by (intro w hSw; (try dsimp only at hSw); go_simp))) ?_
           refine wpAnyH_done (by kernel_rfl) ?_ _
           go_simp
           go_wp2
           go_ret
           exact ⟨rfl, hb⟩
          case bq56 =>
           rw [if_pos (by rfl)]
           (have hCn : CellsAt _ NB [0] := ful_cells hby rfl)
           (with_reducible refine s_appg (NX + 1) 512 NB 1 1 513 rfl _ _ (fulL bl ++ [0]) hCf hCn HL0.out rfl (by decide) (by decide) HS1.out rfl ?_ ?_ ?_)
           · exact rfl
           · exact rfl
           intro VC N5 cap5 hC2 hbc
           clear hCn
           have hH2 := hide (show B < VC.heap.size from Nat.lt_of_lt_of_le hHeld hbc.size)
           replace hb := hb.trans (hbc.mono (by omega))
           replace hA := hA.bl hbc
           replace hCa := hCa.bl hbc
           replace hCb := hCb.bl hbc
           replace hCf := hCf.bl hbc
           replace hBB := Nat.le_trans hBB hbc.size
           (try replace hC1 := BytesAt.bl hC1 hbc)
           (try replace hby := hby.bl hbc)
           clear hHeld hbc
           refine hK.out _ _ ?_ (fun hHeld => ?_)
           · exact hH2.out
           clear hK K
           clear hH2
           simp only [Act.put, pA, pZ, pS]
           refine wpAnyH_ready (rs := [3, 7]) (by kernel_rfl) (by simp) ?_
           refine AllReadyH.cons (o := ?oiq64) ?hiq64 (fun K hK => ?bq64) (AllReadyH.cons (o := ?oiq65) ?hiq65 (fun K hK => ?bq65) (AllReadyH.nil))
           case hiq64 => (simp only [List.getElem?_toArray, List.getElem?_cons_zero, List.getElem?_cons_succ]; rfl)
           case hiq65 => (simp only [List.getElem?_toArray, List.getElem?_cons_zero, List.getElem?_cons_succ]; rfl)
           case bq64 =>
            rw [if_pos (by rfl)]
            (with_reducible refine s_conv (.slice (some ⟨N3, 0, none⟩) 513 cap3) (.string tx) (HCv.out _ N3 cap3 hC1) ?_ ?_)
            · exact rfl
            have hH2 := hide hHeld
            clear hHeld
            refine hK.out _ _ ?_ (fun hHeld => ?_)
            · exact hH2.out
            clear hK K
            clear hH2
            simp only [Act.put, pA, pZ, pS]
            refine skO 7 (by simp only [gT, gZ, gS]; rfl) (fun K hK => ?_)
            rw [if_pos (by rfl)]
            (with_reducible refine s_conv (.slice (some ⟨N5, 0, none⟩) 513 cap5) (.string tx) (HCv.out _ N5 cap5 hC2) ?_ ?_)
            · exact rfl
            have hH2 := hide hHeld
            clear hHeld
            refine hK.out _ _ ?_ (fun hHeld => ?_)
            · exact hH2.out
            clear hK K
            clear hH2
            simp only [Act.put, pA, pZ, pS]
            refine tkO 8 (.bool true) (by simp only [gT, gZ, gS]; rfl) (puO (by (intro w hSw; (try dsimp only at hSw); go_simp))) ?_
            simp only [Act.put, pA, pZ, pS]
            refine tkO 9 (.bool true) (by simp only [gT, gZ, gS]; rfl) (puO (by (intro w hSw; (try dsimp only at hSw); go_simp))) ?_
            simp only [Act.put, pA, pZ, pS]
            refine skO 10 (by simp only [gT, gZ, gS]; rfl) (fun K hK => ?_)
            rw [if_pos (by rfl)]
            go_simp
            (with_reducible refine (HSu.out _ hA).mono ?_)
            rintro e V9 ⟨rfl, hbc⟩
            have hH2 := hide (show B < V9.heap.size from Nat.lt_of_lt_of_le hHeld hbc.size)
            replace hb := hb.trans (hbc.mono (by omega))
            clear hHeld hbc
            go_simp
            refine hK.out _ _ ?_ (fun hHeld => ?_)
            · exact hH2.out
            clear hK K
            clear hH2
            refine tkO 11 (.bool true) (by simp only [gT, gZ, gS]; rfl) (puO (by (intro w hSw; (try dsimp only at hSw); go_simp))) ?_
            simp only [Act.put, pA, pZ, pS]
            refine tkO 12 (.bool true) (by simp only [gT, gZ, gS]; rfl) (puO (by (intro w hSw; (try dsimp only at hSw); go_simp))) ?_
            refine wpAnyH_done (by kernel_rfl) ?_ _
            go_simp
            go_wp2
            go_ret
            exact ⟨rfl, hb⟩
           case bq65 =>
            rw [if_pos (by rfl)]
            (with_reducible refine s_conv (.slice (some ⟨N5, 0, none⟩) 513 cap5) (.string tx) (HCv.out _ N5 cap5 hC2) ?_ ?_)
            · exact rfl
            have hH2 := hide hHeld
            clear hHeld
            refine hK.out _ _ ?_ (fun hHeld => ?_)
            · exact hH2.out
            clear hK K
            clear hH2
            simp only [Act.put, pA, pZ, pS]
            refine skO 3 (by simp only [gT, gZ, gS]; rfl) (fun K hK => ?_)
            rw [if_pos (by rfl)]
            (with_reducible refine s_conv (.slice (some ⟨N3, 0, none⟩) 513 cap3) (.string tx) (HCv.out _ N3 cap3 hC1) ?_ ?_)
            · exact rfl
            have hH2 := hide hHeld
            clear hHeld
            refine hK.out _ _ ?_ (fun hHeld => ?_)
            · exact hH2.out
            clear hK K
            clear hH2
            simp only [Act.put, pA, pZ, pS]
            refine tkO 8 (.bool true) (by simp only [gT, gZ, gS]; rfl) (puO (by (intro w hSw; (try dsimp only at hSw); go_simp))) ?_
            simp only [Act.put, pA, pZ, pS]
            refine tkO 9 (.bool true) (by simp only [gT, gZ, gS]; rfl) (puO (by (intro w hSw; (try dsimp only at hSw); go_simp))) ?_
            simp only [Act.put, pA, pZ, pS]
            refine skO 10 (by simp only [gT, gZ, gS]; rfl) (fun K hK => ?_)
            rw [if_pos (by rfl)]
            go_simp
            (with_reducible refine (HSu.out _ hA).mono ?_)
            rintro e V9 ⟨rfl, hbc⟩
            have hH2 := hide (show B < V9.heap.size from Nat.lt_of_lt_of_le hHeld hbc.size)
            replace hb := hb.trans (hbc.mono (by omega))
            clear hHeld hbc
            go_simp
            refine hK.out _ _ ?_ (fun hHeld => ?_)
            · exact hH2.out
            clear hK K
            clear hH2
            refine tkO 11 (.bool true) (by simp only [gT, gZ, gS]; rfl) (puO (by (intro w hSw; (try dsimp only at hSw); go_simp))) ?_
            simp only [Act.put, pA, pZ, pS]
            refine tkO 12 (.bool true) (by simp only [gT, gZ, gS]; rfl) (puO (by (intro w hSw; (try dsimp only at hSw); go_simp))) ?_
            refine wpAnyH_done (by kernel_rfl) ?_ _
            go_simp
            go_wp2
            go_ret
            exact ⟨rfl, hb⟩
        case bq9 =>
         rw [if_pos (by rfl)]
         (obtain ⟨NT, hNT0⟩ : ∃ n, V.heap.size = n := ⟨_, rfl⟩)
         (with_reducible refine s_alc NT ?_ (zeroBk.c nilS) zero_bk ?_)
         · exact hNT0
         intro V3 ht hbc hz
         rw [← hNT0] at hbc
         (have hNRT : NR < NT := hNT0 ▸ hNl)
         (have hgT : ga < NT := hNT0 ▸ hHeld.2.lt)
         (have hnt : ¬ O3 NT := fun e => absurd (hM.lt _ e) (by omega))
         clear hz hNT0
         have hH2 := hide (And.intro (hHeld.1.bl hbc) (hHeld.2.bl hbc))
         replace hA := hA.bl hbc
         replace hb := hb.trans (hbc.mono (by have := hM.base; omega))
         replace hM := hM.bl hbc
         replace hI := hI.bl hbc
         replace hf := hf.bl hbc
         replace hNl := Nat.lt_of_lt_of_le hNl hbc.size
         clear hHeld hbc
         refine hK.out _ _ ?_ (fun hHeld => ?_)
         · exact hH2.out
         clear hK K
         clear hH2
         refine skO 7 (by simp only [gT, gZ, gS]; rfl) (fun K hK => ?_)
         rw [if_pos (by rfl)]
         go_simp
         (with_reducible refine (HFi.out _ _ _ _ _ _ _ hM hA hI (HFO.out _ _ _ hf HFE.out).1).mono ?_)
         rintro e V4 ⟨v2, O4, rfl, hM3, hW3, hI2⟩
         have hH2 := hide (And.intro (hW3.row hHeld.1 hnr) (hW3.row hHeld.2 hgo))
         (have hv2o := own_one hI2.row)
         (have hnt3 := hW3.no ht.lt hnt)
         replace ht := hW3.row ht hnt
         clear hnt
         (have hnt := hnt3)
         clear hnt3
         (have hnf3 := hW3.no hf.lt hnf)
         replace hf := hW3.row hf hnf
         clear hnf
         (have hnf := hnf3)
         clear hnf3
         replace hb := hb.trans (hW3.below.mono (by omega))
         replace hA := hA.wentR hG hW3
         replace hNl := Nat.lt_of_lt_of_le hNl hW3.size
         (have hBl : B + 1 + 1 ≤ V4.heap.size := by omega)
         (obtain ⟨va2, vc2, rfl⟩ := in_none hI2)
         clear hM hI hW3 hHeld hI2
         go_simp
         refine hK.out _ _ ?_ (fun hHeld => ?_)
         · exact hH2.out
         clear hK K
         clear hH2
         refine tkO 8 (.tuple #[.agg (s3.c (.slice va2 0 vc2)), .nilIface]) (by simp only [gT, gZ, gS]; rfl) (puO (by (intro w hSw; (try dsimp only at hSw); go_simp))) ?_
         simp only [Act.put, pA, pZ, pS]
         refine tkO 9 (.agg (s3.c (.slice va2 0 vc2))) (by simp only [gT, gZ, gS]; rfl) (puO (by (intro w hSw; (try dsimp only at hSw); go_simp))) ?_
         simp only [Act.put, pA, pZ, pS]
         refine tkO 10 (.nilIface) (by simp only [gT, gZ, gS]; rfl) (puO (by (intro w hSw; (try dsimp only at hSw); go_simp))) ?_
         simp only [Act.put, pA, pZ, pS]
         refine skO 12 (by simp only [gT, gZ, gS]; rfl) (fun K hK => ?_)
         rw [if_pos (by rfl)]
         (with_reducible refine s_bk NT _ _ s3 (.slice va2 0 vc2) hv2o ht ?_ ?_ ?_)
         · exact rfl
         · exact rfl
         intro V5 hnew hoo
         have hH2 := hide (And.intro (hHeld.1.only hoo (by omega)) (hHeld.2.only hoo (by omega)))
         replace hM3 := hM3.only hoo hnt
         replace hA := hA.onlyR hoo (by omega)
         replace hb := hoo.bel _ _ (by omega) hb
         replace hf := hf.only hoo (by omega)
         clear ht
         (have ht := hnew)
         clear hHeld hoo hnew
         refine hK.out _ _ ?_ (fun hHeld => ?_)
         · exact hH2.out
         clear hK K
         clear hH2
         refine tkO 13 (.nilIface) (by simp only [gT, gZ, gS]; rfl) (puO (by (intro w hSw; (try dsimp only at hSw); go_simp))) ?_
         simp only [Act.put, pA, pZ, pS]
         refine wpAnyH_done (by kernel_rfl) ?_ _
         go_simp
         go_wp2_with (first | (go_at_call 14; (with_reducible refine (HR1.out _ _ _ hM3).mono ?_); rintro e W6 ⟨NA, rfl, hCa, O6, hM6, hW6, hnA⟩; (have hnf3 := hW6.no hf.lt hnf); replace hf := hW6.row hf hnf; clear hnf; (have hnf := hnf3); clear hnf3; (have hnt3 := hW6.no ht.lt hnt); replace ht := hW6.row ht hnt; clear hnt; (have hnt := hnt3); clear hnt3; replace hb := hb.trans (hW6.below.mono (by omega)); replace hA := hA.wentR hG hW6; clear hM3; (have hM3 := hM6); clear hM6 hW6) | (go_at_call 14; (with_reducible refine (HR2.out _ _ _ _ hM3 ?_).mono ?_); (first | omega | (simp; omega)); rintro e W7 ⟨NC, rfl, hCb, O7, hM6, hW6, hnB⟩; replace hCa := hCa.went hW6 hnA; (have hnf3 := hW6.no hf.lt hnf); replace hf := hW6.row hf hnf; clear hnf; (have hnf := hnf3); clear hnf3; (have hnt3 := hW6.no ht.lt hnt); replace ht := hW6.row ht hnt; clear hnt; (have hnt := hnt3); clear hnt3; replace hb := hb.trans (hW6.below.mono (by omega)); replace hA := hA.wentR hG hW6; clear hM3; (have hM3 := hM6); clear hM6 hW6) | ((with_reducible refine ld_bin NT s3 _ _ ht ?_ ?_ ?_); exact rfl; exact rfl))
         have hCf := (HFO.out _ _ _ hf HFE.out).2
         refine wp_region_held_drew (S := (fun V => B < V.heap.size)) (by kernel_rfl) ?_ (fun hHeld => ?_)
         · exact (show B < (World.drew _).heap.size from Nat.lt_of_lt_of_le (by omega) hM3.base)
         replace hb := hb.drew
         replace hA := hA.drR
         replace hCa := hCa.dr
         replace hCb := hCb.dr
         replace hCf := hCf.dr
         have hBB : B + 1 + 1 ≤ (World.drew _).heap.size := hM3.base
         clear hM3 ht hf hnt hnf
         generalize World.drew _ = V at hHeld hb hA hCa hCb hCf hBB ⊢
         refine tkO 0 (.slice (some ⟨NA, 0, none⟩) c c) (by simp only [gT, gZ]; rfl) (puO (by (intro w hSw; (try dsimp only at hSw); go_simp))) ?_
         simp only [Act.put, pA, pZ, pS]
         refine tkO 1 (.slice (some ⟨NC, 0, none⟩) (513 - c) (513 - c)) (by simp only [gT, gZ, gS]; rfl) (puO (by (intro w hSw; (try dsimp only at hSw); go_simp))) ?_
         simp only [Act.put, pA, pZ, pS]
         refine tkO 4 (.slice (some ⟨NX + 1, 0, none⟩) 512 512) (by simp only [gT, gZ, gS]; rfl) (puO (by (intro w hSw; (try dsimp only at hSw); go_simp))) ?_
         simp only [Act.put, pA, pZ, pS]
         refine wpAnyH_ready (rs := [2, 5]) (by kernel_rfl) (by simp) ?_
         refine AllReadyH.cons (o := ?oiq87) ?hiq87 (fun K hK => ?bq87) (AllReadyH.cons (o := ?oiq88) ?hiq88 (fun K hK => ?bq88) (AllReadyH.nil))
         case hiq87 => (simp only [List.getElem?_toArray, List.getElem?_cons_zero, List.getElem?_cons_succ]; rfl)
         case hiq88 => (simp only [List.getElem?_toArray, List.getElem?_cons_zero, List.getElem?_cons_succ]; rfl)
         case bq87 =>
          rw [if_pos (by rfl)]
          (with_reducible refine s_appg NA c NC (513 - c) (513 - c) 513 hc513 _ _ (fulL bl ++ [0]) hCa hCb HL1.out HL2.out (by omega) (by omega) HS1.out HTD.out ?_ ?_ ?_)
          · exact rfl
          · exact rfl
          intro VA N3 cap3 hC1 hbc
          have hH2 := hide (show B < VA.heap.size from Nat.lt_of_lt_of_le hHeld hbc.size)
          replace hb := hb.trans (hbc.mono (by omega))
          replace hA := hA.bl hbc
          replace hCa := hCa.bl hbc
          replace hCb := hCb.bl hbc
          replace hCf := hCf.bl hbc
          replace hBB := Nat.le_trans hBB hbc.size
          (try replace hC2 := BytesAt.bl hC2 hbc)
          (try replace hby := hby.bl hbc)
          clear hHeld hbc
          refine hK.out _ _ ?_ (fun hHeld => ?_)
          · exact hH2.out
          clear hK K
          clear hH2
          simp only [Act.put, pA, pZ, pS]
          refine wpAnyH_ready (rs := [3, 5]) (by kernel_rfl) (by simp) ?_
          refine AllReadyH.cons (o := ?oiq89) ?hiq89 (fun K hK => ?bq89) (AllReadyH.cons (o := ?oiq90) ?hiq90 (fun K hK => ?bq90) (AllReadyH.nil))
          case hiq89 => (simp only [List.getElem?_toArray, List.getElem?_cons_zero, List.getElem?_cons_succ]; rfl)
          case hiq90 => (simp only [List.getElem?_toArray, List.getElem?_cons_zero, List.getElem?_cons_succ]; rfl)
          case bq89 =>
           rw [if_pos (by rfl)]
           (with_reducible refine s_conv (.slice (some ⟨N3, 0, none⟩) 513 cap3) (.string tx) (HCv.out _ N3 cap3 hC1) ?_ ?_)
           · exact rfl
           have hH2 := hide hHeld
           clear hHeld
           refine hK.out _ _ ?_ (fun hHeld => ?_)
           · exact hH2.out
           clear hK K
           clear hH2
           simp only [Act.put, pA, pZ, pS]
           refine skO 5 (by simp only [gT, gZ, gS]; rfl) (fun K hK => ?_)
           rw [if_pos (by rfl)]
           (obtain ⟨NB, hNB0⟩ : ∃ n, VA.heap.size = n := ⟨_, rfl⟩)
           (with_reducible refine s_bsr 37 5 1 Tryz.underlying37 #[.int .u8 (0 : Nat)] NB ?_ [(0, .int .u8 (0 : Nat))] ?_ (bs_byte 0) ?_)
           · exact hNB0
           · first | rfl | (simp; done) | kernel_rfl
           intro VB hby hbc hz3
           rw [← hNB0] at hbc
           clear hNB0 hz3
           have hH2 := hide (show B < VB.heap.size from Nat.lt_of_lt_of_le hHeld hbc.size)
           replace hb := hb.trans (hbc.mono (by omega))
           replace hA := hA.bl hbc
           replace hCa := hCa.bl hbc
           replace hCb := hCb.bl hbc
           replace hCf := hCf.bl hbc
           replace hBB := Nat.le_trans hBB hbc.size
           (try replace hC1 := BytesAt.bl hC1 hbc)
           (try replace hC2 := BytesAt.bl hC2 hbc)
           clear hHeld hbc
           refine hK.out _ _ ?_ (fun hHeld => ?_)
           · exact hH2.out
           clear hK K
           clear hH2
           simp only [Act.put, pA, pZ, pS]
           refine skO 6 (by simp only [gT, gZ, gS]; rfl) (fun K hK => ?_)
           rw [if_pos (by rfl)]
           (have hCn : CellsAt _ NB [0] := ful_cells hby rfl)
           (with_reducible refine s_appg (NX + 1) 512 NB 1 1 513 rfl _ _ (fulL bl ++ [0]) hCf hCn HL0.out rfl (by decide) (by decide) HS1.out rfl ?_ ?_ ?_)
           · exact rfl
           · exact rfl
           intro VC N5 cap5 hC2 hbc
           clear hCn
           have hH2 := hide (show B < VC.heap.size from Nat.lt_of_lt_of_le hHeld hbc.size)
           replace hb := hb.trans (hbc.mono (by omega))
           replace hA := hA.bl hbc
           replace hCa := hCa.bl hbc
           replace hCb := hCb.bl hbc
           replace hCf := hCf.bl hbc
           replace hBB := Nat.le_trans hBB hbc.size
           (try replace hC1 := BytesAt.bl hC1 hbc)
           (try replace hby := hby.bl hbc)
           clear hHeld hbc
           refine hK.out _ _ ?_ (fun hHeld => ?_)
           · exact hH2.out
           clear hK K
           clear hH2
           simp only [Act.put, pA, pZ, pS]
           refine skO 7 (by simp only [gT, gZ, gS]; rfl) (fun K hK => ?_)
           rw [if_pos (by rfl)]
           (with_reducible refine s_conv (.slice (some ⟨N5, 0, none⟩) 513 cap5) (.string tx) (HCv.out _ N5 cap5 hC2) ?_ ?_)
           · exact rfl
           have hH2 := hide hHeld
           clear hHeld
           refine hK.out _ _ ?_ (fun hHeld => ?_)
           · exact hH2.out
           clear hK K
           clear hH2
           simp only [Act.put, pA, pZ, pS]
           refine tkO 8 (.bool true) (by simp only [gT, gZ, gS]; rfl) (puO (by (intro w hSw; (try dsimp only at hSw); go_simp))) ?_
           simp only [Act.put, pA, pZ, pS]
           refine tkO 9 (.bool true) (by simp only [gT, gZ, gS]; rfl) (puO (by (intro w hSw; (try dsimp only at hSw); go_simp))) ?_
           simp only [Act.put, pA, pZ, pS]
           refine skO 10 (by simp only [gT, gZ, gS]; rfl) (fun K hK => ?_)
           rw [if_pos (by rfl)]
           go_simp
           (with_reducible refine (HSu.out _ hA).mono ?_)
           rintro e V9 ⟨rfl, hbc⟩
           have hH2 := hide (show B < V9.heap.size from Nat.lt_of_lt_of_le hHeld hbc.size)
           replace hb := hb.trans (hbc.mono (by omega))
           clear hHeld hbc
           go_simp
           refine hK.out _ _ ?_ (fun hHeld => ?_)
           · exact hH2.out
           clear hK K
           clear hH2
           refine tkO 11 (.bool true) (by simp only [gT, gZ, gS]; rfl) (puO (by (intro w hSw; (try dsimp only at hSw); go_simp))) ?_
           simp only [Act.put, pA, pZ, pS]
           refine tkO 12 (.bool true) (by simp only [gT, gZ, gS]; rfl) (puO (by (intro w hSw; (try dsimp only at hSw); go_simp))) ?_
           refine wpAnyH_done (by kernel_rfl) ?_ _
           go_simp
           go_wp2
           go_ret
           exact ⟨rfl, hb⟩
          case bq90 =>
           rw [if_pos (by rfl)]
           (obtain ⟨NB, hNB0⟩ : ∃ n, VA.heap.size = n := ⟨_, rfl⟩)
           (with_reducible refine s_bsr 37 5 1 Tryz.underlying37 #[.int .u8 (0 : Nat)] NB ?_ [(0, .int .u8 (0 : Nat))] ?_ (bs_byte 0) ?_)
           · exact hNB0
           · first | rfl | (simp; done) | kernel_rfl
           intro VB hby hbc hz3
           rw [← hNB0] at hbc
           clear hNB0 hz3
           have hH2 := hide (show B < VB.heap.size from Nat.lt_of_lt_of_le hHeld hbc.size)
           replace hb := hb.trans (hbc.mono (by omega))
           replace hA := hA.bl hbc
           replace hCa := hCa.bl hbc
           replace hCb := hCb.bl hbc
           replace hCf := hCf.bl hbc
           replace hBB := Nat.le_trans hBB hbc.size
           (try replace hC1 := BytesAt.bl hC1 hbc)
           (try replace hC2 := BytesAt.bl hC2 hbc)
           clear hHeld hbc
           refine hK.out _ _ ?_ (fun hHeld => ?_)
           · exact hH2.out
           clear hK K
           clear hH2
           simp only [Act.put, pA, pZ, pS]
           refine wpAnyH_ready (rs := [3, 6]) (by kernel_rfl) (by simp) ?_
           refine AllReadyH.cons (o := ?oiq99) ?hiq99 (fun K hK => ?bq99) (AllReadyH.cons (o := ?oiq100) ?hiq100 (fun K hK => ?bq100) (AllReadyH.nil))
           case hiq99 => (simp only [List.getElem?_toArray, List.getElem?_cons_zero, List.getElem?_cons_succ]; rfl)
           case hiq100 => (simp only [List.getElem?_toArray, List.getElem?_cons_zero, List.getElem?_cons_succ]; rfl)
           case bq99 =>
            rw [if_pos (by rfl)]
            (with_reducible refine s_conv (.slice (some ⟨N3, 0, none⟩) 513 cap3) (.string tx) (HCv.out _ N3 cap3 hC1) ?_ ?_)
            · exact rfl
            have hH2 := hide hHeld
            clear hHeld
            refine hK.out _ _ ?_ (fun hHeld => ?_)
            · exact hH2.out
            clear hK K
            clear hH2
            simp only [Act.put, pA, pZ, pS]
            refine skO 6 (by simp only [gT, gZ, gS]; rfl) (fun K hK => ?_)
            rw [if_pos (by rfl)]
            (have hCn : CellsAt _ NB [0] := ful_cells hby rfl)
            (with_reducible refine s_appg (NX + 1) 512 NB 1 1 513 rfl _ _ (fulL bl ++ [0]) hCf hCn HL0.out rfl (by decide) (by decide) HS1.out rfl ?_ ?_ ?_)
            · exact rfl
            · exact rfl
            intro VC N5 cap5 hC2 hbc
            clear hCn
            have hH2 := hide (show B < VC.heap.size from Nat.lt_of_lt_of_le hHeld hbc.size)
            replace hb := hb.trans (hbc.mono (by omega))
            replace hA := hA.bl hbc
            replace hCa := hCa.bl hbc
            replace hCb := hCb.bl hbc
            replace hCf := hCf.bl hbc
            replace hBB := Nat.le_trans hBB hbc.size
            (try replace hC1 := BytesAt.bl hC1 hbc)
            (try replace hby := hby.bl hbc)
            clear hHeld hbc
            refine hK.out _ _ ?_ (fun hHeld => ?_)
            · exact hH2.out
            clear hK K
            clear hH2
            simp only [Act.put, pA, pZ, pS]
            refine skO 7 (by simp only [gT, gZ, gS]; rfl) (fun K hK => ?_)
            rw [if_pos (by rfl)]
            (with_reducible refine s_conv (.slice (some ⟨N5, 0, none⟩) 513 cap5) (.string tx) (HCv.out _ N5 cap5 hC2) ?_ ?_)
            · exact rfl
            have hH2 := hide hHeld
            clear hHeld
            refine hK.out _ _ ?_ (fun hHeld => ?_)
            · exact hH2.out
            clear hK K
            clear hH2
            simp only [Act.put, pA, pZ, pS]
            refine tkO 8 (.bool true) (by simp only [gT, gZ, gS]; rfl) (puO (by (intro w hSw; (try dsimp only at hSw); go_simp))) ?_
            simp only [Act.put, pA, pZ, pS]
            refine tkO 9 (.bool true) (by simp only [gT, gZ, gS]; rfl) (puO (by (intro w hSw; (try dsimp only at hSw); go_simp))) ?_
            simp only [Act.put, pA, pZ, pS]
            refine skO 10 (by simp only [gT, gZ, gS]; rfl) (fun K hK => ?_)
            rw [if_pos (by rfl)]
            go_simp
            (with_reducible refine (HSu.out _ hA).mono ?_)
            rintro e V9 ⟨rfl, hbc⟩
            have hH2 := hide (show B < V9.heap.size from Nat.lt_of_lt_of_le hHeld hbc.size)
            replace hb := hb.trans (hbc.mono (by omega))
            clear hHeld hbc
            go_simp
            refine hK.out _ _ ?_ (fun hHeld => ?_)
            · exact hH2.out
            clear hK K
            clear hH2
            refine tkO 11 (.bool true) (by simp only [gT, gZ, gS]; rfl) (puO (by (intro w hSw; (try dsimp only at hSw); go_simp))) ?_
            simp only [Act.put, pA, pZ, pS]
            refine tkO 12 (.bool true) (by simp only [gT, gZ, gS]; rfl) (puO (by (intro w hSw; (try dsimp only at hSw); go_simp))) ?_
            refine wpAnyH_done (by kernel_rfl) ?_ _
            go_simp
            go_wp2
            go_ret
            exact ⟨rfl, hb⟩
           case bq100 =>
            rw [if_pos (by rfl)]
            (have hCn : CellsAt _ NB [0] := ful_cells hby rfl)
            (with_reducible refine s_appg (NX + 1) 512 NB 1 1 513 rfl _ _ (fulL bl ++ [0]) hCf hCn HL0.out rfl (by decide) (by decide) HS1.out rfl ?_ ?_ ?_)
            · exact rfl
            · exact rfl
            intro VC N5 cap5 hC2 hbc
            clear hCn
            have hH2 := hide (show B < VC.heap.size from Nat.lt_of_lt_of_le hHeld hbc.size)
            replace hb := hb.trans (hbc.mono (by omega))
            replace hA := hA.bl hbc
            replace hCa := hCa.bl hbc
            replace hCb := hCb.bl hbc
            replace hCf := hCf.bl hbc
            replace hBB := Nat.le_trans hBB hbc.size
            (try replace hC1 := BytesAt.bl hC1 hbc)
            (try replace hby := hby.bl hbc)
            clear hHeld hbc
            refine hK.out _ _ ?_ (fun hHeld => ?_)
            · exact hH2.out
            clear hK K
            clear hH2
            simp only [Act.put, pA, pZ, pS]
            refine wpAnyH_ready (rs := [3, 7]) (by kernel_rfl) (by simp) ?_
            refine AllReadyH.cons (o := ?oiq108) ?hiq108 (fun K hK => ?bq108) (AllReadyH.cons (o := ?oiq109) ?hiq109 (fun K hK => ?bq109) (AllReadyH.nil))
            case hiq108 => (simp only [List.getElem?_toArray, List.getElem?_cons_zero, List.getElem?_cons_succ]; rfl)
            case hiq109 => (simp only [List.getElem?_toArray, List.getElem?_cons_zero, List.getElem?_cons_succ]; rfl)
            case bq108 =>
             rw [if_pos (by rfl)]
             (with_reducible refine s_conv (.slice (some ⟨N3, 0, none⟩) 513 cap3) (.string tx) (HCv.out _ N3 cap3 hC1) ?_ ?_)
             · exact rfl
             have hH2 := hide hHeld
             clear hHeld
             refine hK.out _ _ ?_ (fun hHeld => ?_)
             · exact hH2.out
             clear hK K
             clear hH2
             simp only [Act.put, pA, pZ, pS]
             refine skO 7 (by simp only [gT, gZ, gS]; rfl) (fun K hK => ?_)
             rw [if_pos (by rfl)]
             (with_reducible refine s_conv (.slice (some ⟨N5, 0, none⟩) 513 cap5) (.string tx) (HCv.out _ N5 cap5 hC2) ?_ ?_)
             · exact rfl
             have hH2 := hide hHeld
             clear hHeld
             refine hK.out _ _ ?_ (fun hHeld => ?_)
             · exact hH2.out
             clear hK K
             clear hH2
             simp only [Act.put, pA, pZ, pS]
             refine tkO 8 (.bool true) (by simp only [gT, gZ, gS]; rfl) (puO (by (intro w hSw; (try dsimp only at hSw); go_simp))) ?_
             simp only [Act.put, pA, pZ, pS]
             refine tkO 9 (.bool true) (by simp only [gT, gZ, gS]; rfl) (puO (by (intro w hSw; (try dsimp only at hSw); go_simp))) ?_
             simp only [Act.put, pA, pZ, pS]
             refine skO 10 (by simp only [gT, gZ, gS]; rfl) (fun K hK => ?_)
             rw [if_pos (by rfl)]
             go_simp
             (with_reducible refine (HSu.out _ hA).mono ?_)
             rintro e V9 ⟨rfl, hbc⟩
             have hH2 := hide (show B < V9.heap.size from Nat.lt_of_lt_of_le hHeld hbc.size)
             replace hb := hb.trans (hbc.mono (by omega))
             clear hHeld hbc
             go_simp
             refine hK.out _ _ ?_ (fun hHeld => ?_)
             · exact hH2.out
             clear hK K
             clear hH2
             refine tkO 11 (.bool true) (by simp only [gT, gZ, gS]; rfl) (puO (by (intro w hSw; (try dsimp only at hSw); go_simp))) ?_
             simp only [Act.put, pA, pZ, pS]
             refine tkO 12 (.bool true) (by simp only [gT, gZ, gS]; rfl) (puO (by (intro w hSw; (try dsimp only at hSw); go_simp))) ?_
             refine wpAnyH_done (by kernel_rfl) ?_ _
             go_simp
             go_wp2
             go_ret
             exact ⟨rfl, hb⟩
            case bq109 =>
             rw [if_pos (by rfl)]
             (with_reducible refine s_conv (.slice (some ⟨N5, 0, none⟩) 513 cap5) (.string tx) (HCv.out _ N5 cap5 hC2) ?_ ?_)
             · exact rfl
             have hH2 := hide hHeld
             clear hHeld
             refine hK.out _ _ ?_ (fun hHeld => ?_)
             · exact hH2.out
             clear hK K
             clear hH2
             simp only [Act.put, pA, pZ, pS]
             refine skO 3 (by simp only [gT, gZ, gS]; rfl) (fun K hK => ?_)
             rw [if_pos (by rfl)]
             (with_reducible refine s_conv (.slice (some ⟨N3, 0, none⟩) 513 cap3) (.string tx) (HCv.out _ N3 cap3 hC1) ?_ ?_)
             · exact rfl
             have hH2 := hide hHeld
             clear hHeld
             refine hK.out _ _ ?_ (fun hHeld => ?_)
             · exact hH2.out
             clear hK K
             clear hH2
             simp only [Act.put, pA, pZ, pS]
             refine tkO 8 (.bool true) (by simp only [gT, gZ, gS]; rfl) (puO (by (intro w hSw; (try dsimp only at hSw); go_simp))) ?_
             simp only [Act.put, pA, pZ, pS]
             refine tkO 9 (.bool true) (by simp only [gT, gZ, gS]; rfl) (puO (by (intro w hSw; (try dsimp only at hSw); go_simp))) ?_
             simp only [Act.put, pA, pZ, pS]
             refine skO 10 (by simp only [gT, gZ, gS]; rfl) (fun K hK => ?_)
             rw [if_pos (by rfl)]
             go_simp
             (with_reducible refine (HSu.out _ hA).mono ?_)
             rintro e V9 ⟨rfl, hbc⟩
             have hH2 := hide (show B < V9.heap.size from Nat.lt_of_lt_of_le hHeld hbc.size)
             replace hb := hb.trans (hbc.mono (by omega))
             clear hHeld hbc
             go_simp
             refine hK.out _ _ ?_ (fun hHeld => ?_)
             · exact hH2.out
             clear hK K
             clear hH2
             refine tkO 11 (.bool true) (by simp only [gT, gZ, gS]; rfl) (puO (by (intro w hSw; (try dsimp only at hSw); go_simp))) ?_
             simp only [Act.put, pA, pZ, pS]
             refine tkO 12 (.bool true) (by simp only [gT, gZ, gS]; rfl) (puO (by (intro w hSw; (try dsimp only at hSw); go_simp))) ?_
             refine wpAnyH_done (by kernel_rfl) ?_ _
             go_simp
             go_wp2
             go_ret
             exact ⟨rfl, hb⟩
         case bq88 =>
          rw [if_pos (by rfl)]
          (obtain ⟨NB, hNB0⟩ : ∃ n, V.heap.size = n := ⟨_, rfl⟩)
          (with_reducible refine s_bsr 37 5 1 Tryz.underlying37 #[.int .u8 (0 : Nat)] NB ?_ [(0, .int .u8 (0 : Nat))] ?_ (bs_byte 0) ?_)
          · exact hNB0
          · first | rfl | (simp; done) | kernel_rfl
          intro VB hby hbc hz3
          rw [← hNB0] at hbc
          clear hNB0 hz3
          have hH2 := hide (show B < VB.heap.size from Nat.lt_of_lt_of_le hHeld hbc.size)
          replace hb := hb.trans (hbc.mono (by omega))
          replace hA := hA.bl hbc
          replace hCa := hCa.bl hbc
          replace hCb := hCb.bl hbc
          replace hCf := hCf.bl hbc
          replace hBB := Nat.le_trans hBB hbc.size
          (try replace hC1 := BytesAt.bl hC1 hbc)
          (try replace hC2 := BytesAt.bl hC2 hbc)
          clear hHeld hbc
          refine hK.out _ _ ?_ (fun hHeld => ?_)
          · exact hH2.out
          clear hK K
          clear hH2
          simp only [Act.put, pA, pZ, pS]
          refine skO 2 (by simp only [gT, gZ, gS]; rfl) (fun K hK => ?_)
          rw [if_pos (by rfl)]
          (with_reducible refine s_appg NA c NC (513 - c) (513 - c) 513 hc513 _ _ (fulL bl ++ [0]) hCa hCb HL1.out HL2.out (by omega) (by omega) HS1.out HTD.out ?_ ?_ ?_)
          · exact rfl
          · exact rfl
          intro VA N3 cap3 hC1 hbc
          have hH2 := hide (show B < VA.heap.size from Nat.lt_of_lt_of_le hHeld hbc.size)
          replace hb := hb.trans (hbc.mono (by omega))
          replace hA := hA.bl hbc
          replace hCa := hCa.bl hbc
          replace hCb := hCb.bl hbc
          replace hCf := hCf.bl hbc
          replace hBB := Nat.le_trans hBB hbc.size
          (try replace hC2 := BytesAt.bl hC2 hbc)
          (try replace hby := hby.bl hbc)
          clear hHeld hbc
          refine hK.out _ _ ?_ (fun hHeld => ?_)
          · exact hH2.out
          clear hK K
          clear hH2
          simp only [Act.put, pA, pZ, pS]
          refine wpAnyH_ready (rs := [3, 6]) (by kernel_rfl) (by simp) ?_
          refine AllReadyH.cons (o := ?oiq123) ?hiq123 (fun K hK => ?bq123) (AllReadyH.cons (o := ?oiq124) ?hiq124 (fun K hK => ?bq124) (AllReadyH.nil))
          case hiq123 => (simp only [List.getElem?_toArray, List.getElem?_cons_zero, List.getElem?_cons_succ]; rfl)
          case hiq124 => (simp only [List.getElem?_toArray, List.getElem?_cons_zero, List.getElem?_cons_succ]; rfl)
          case bq123 =>
           rw [if_pos (by rfl)]
           (with_reducible refine s_conv (.slice (some ⟨N3, 0, none⟩) 513 cap3) (.string tx) (HCv.out _ N3 cap3 hC1) ?_ ?_)
           · exact rfl
           have hH2 := hide hHeld
           clear hHeld
           refine hK.out _ _ ?_ (fun hHeld => ?_)
           · exact hH2.out
           clear hK K
           clear hH2
           simp only [Act.put, pA, pZ, pS]
           refine skO 6 (by simp only [gT, gZ, gS]; rfl) (fun K hK => ?_)
           rw [if_pos (by rfl)]
           (have hCn : CellsAt _ NB [0] := ful_cells hby rfl)
           (with_reducible refine s_appg (NX + 1) 512 NB 1 1 513 rfl _ _ (fulL bl ++ [0]) hCf hCn HL0.out rfl (by decide) (by decide) HS1.out rfl ?_ ?_ ?_)
           · exact rfl
           · exact rfl
           intro VC N5 cap5 hC2 hbc
           clear hCn
           have hH2 := hide (show B < VC.heap.size from Nat.lt_of_lt_of_le hHeld hbc.size)
           replace hb := hb.trans (hbc.mono (by omega))
           replace hA := hA.bl hbc
           replace hCa := hCa.bl hbc
           replace hCb := hCb.bl hbc
           replace hCf := hCf.bl hbc
           replace hBB := Nat.le_trans hBB hbc.size
           (try replace hC1 := BytesAt.bl hC1 hbc)
           (try replace hby := hby.bl hbc)
           clear hHeld hbc
           refine hK.out _ _ ?_ (fun hHeld => ?_)
           · exact hH2.out
           clear hK K
           clear hH2
           simp only [Act.put, pA, pZ, pS]
           refine skO 7 (by simp only [gT, gZ, gS]; rfl) (fun K hK => ?_)
           rw [if_pos (by rfl)]
           (with_reducible refine s_conv (.slice (some ⟨N5, 0, none⟩) 513 cap5) (.string tx) (HCv.out _ N5 cap5 hC2) ?_ ?_)
           · exact rfl
           have hH2 := hide hHeld
           clear hHeld
           refine hK.out _ _ ?_ (fun hHeld => ?_)
           · exact hH2.out
           clear hK K
           clear hH2
           simp only [Act.put, pA, pZ, pS]
           refine tkO 8 (.bool true) (by simp only [gT, gZ, gS]; rfl) (puO (by (intro w hSw; (try dsimp only at hSw); go_simp))) ?_
           simp only [Act.put, pA, pZ, pS]
           refine tkO 9 (.bool true) (by simp only [gT, gZ, gS]; rfl) (puO (by (intro w hSw; (try dsimp only at hSw); go_simp))) ?_
           simp only [Act.put, pA, pZ, pS]
           refine skO 10 (by simp only [gT, gZ, gS]; rfl) (fun K hK => ?_)
           rw [if_pos (by rfl)]
           go_simp
           (with_reducible refine (HSu.out _ hA).mono ?_)
           rintro e V9 ⟨rfl, hbc⟩
           have hH2 := hide (show B < V9.heap.size from Nat.lt_of_lt_of_le hHeld hbc.size)
           replace hb := hb.trans (hbc.mono (by omega))
           clear hHeld hbc
           go_simp
           refine hK.out _ _ ?_ (fun hHeld => ?_)
           · exact hH2.out
           clear hK K
           clear hH2
           refine tkO 11 (.bool true) (by simp only [gT, gZ, gS]; rfl) (puO (by (intro w hSw; (try dsimp only at hSw); go_simp))) ?_
           simp only [Act.put, pA, pZ, pS]
           refine tkO 12 (.bool true) (by simp only [gT, gZ, gS]; rfl) (puO (by (intro w hSw; (try dsimp only at hSw); go_simp))) ?_
           refine wpAnyH_done (by kernel_rfl) ?_ _
           go_simp
           go_wp2
           go_ret
           exact ⟨rfl, hb⟩
          case bq124 =>
           rw [if_pos (by rfl)]
           (have hCn : CellsAt _ NB [0] := ful_cells hby rfl)
           (with_reducible refine s_appg (NX + 1) 512 NB 1 1 513 rfl _ _ (fulL bl ++ [0]) hCf hCn HL0.out rfl (by decide) (by decide) HS1.out rfl ?_ ?_ ?_)
           · exact rfl
           · exact rfl
           intro VC N5 cap5 hC2 hbc
           clear hCn
           have hH2 := hide (show B < VC.heap.size from Nat.lt_of_lt_of_le hHeld hbc.size)
           replace hb := hb.trans (hbc.mono (by omega))
           replace hA := hA.bl hbc
           replace hCa := hCa.bl hbc
           replace hCb := hCb.bl hbc
           replace hCf := hCf.bl hbc
           replace hBB := Nat.le_trans hBB hbc.size
           (try replace hC1 := BytesAt.bl hC1 hbc)
           (try replace hby := hby.bl hbc)
           clear hHeld hbc
           refine hK.out _ _ ?_ (fun hHeld => ?_)
           · exact hH2.out
           clear hK K
           clear hH2
           simp only [Act.put, pA, pZ, pS]
           refine wpAnyH_ready (rs := [3, 7]) (by kernel_rfl) (by simp) ?_
           refine AllReadyH.cons (o := ?oiq132) ?hiq132 (fun K hK => ?bq132) (AllReadyH.cons (o := ?oiq133) ?hiq133 (fun K hK => ?bq133) (AllReadyH.nil))
           case hiq132 => (simp only [List.getElem?_toArray, List.getElem?_cons_zero, List.getElem?_cons_succ]; rfl)
           case hiq133 => (simp only [List.getElem?_toArray, List.getElem?_cons_zero, List.getElem?_cons_succ]; rfl)
           case bq132 =>
            rw [if_pos (by rfl)]
            (with_reducible refine s_conv (.slice (some ⟨N3, 0, none⟩) 513 cap3) (.string tx) (HCv.out _ N3 cap3 hC1) ?_ ?_)
            · exact rfl
            have hH2 := hide hHeld
            clear hHeld
            refine hK.out _ _ ?_ (fun hHeld => ?_)
            · exact hH2.out
            clear hK K
            clear hH2
            simp only [Act.put, pA, pZ, pS]
            refine skO 7 (by simp only [gT, gZ, gS]; rfl) (fun K hK => ?_)
            rw [if_pos (by rfl)]
            (with_reducible refine s_conv (.slice (some ⟨N5, 0, none⟩) 513 cap5) (.string tx) (HCv.out _ N5 cap5 hC2) ?_ ?_)
            · exact rfl
            have hH2 := hide hHeld
            clear hHeld
            refine hK.out _ _ ?_ (fun hHeld => ?_)
            · exact hH2.out
            clear hK K
            clear hH2
            simp only [Act.put, pA, pZ, pS]
            refine tkO 8 (.bool true) (by simp only [gT, gZ, gS]; rfl) (puO (by (intro w hSw; (try dsimp only at hSw); go_simp))) ?_
            simp only [Act.put, pA, pZ, pS]
            refine tkO 9 (.bool true) (by simp only [gT, gZ, gS]; rfl) (puO (by (intro w hSw; (try dsimp only at hSw); go_simp))) ?_
            simp only [Act.put, pA, pZ, pS]
            refine skO 10 (by simp only [gT, gZ, gS]; rfl) (fun K hK => ?_)
            rw [if_pos (by rfl)]
            go_simp
            (with_reducible refine (HSu.out _ hA).mono ?_)
            rintro e V9 ⟨rfl, hbc⟩
            have hH2 := hide (show B < V9.heap.size from Nat.lt_of_lt_of_le hHeld hbc.size)
            replace hb := hb.trans (hbc.mono (by omega))
            clear hHeld hbc
            go_simp
            refine hK.out _ _ ?_ (fun hHeld => ?_)
            · exact hH2.out
            clear hK K
            clear hH2
            refine tkO 11 (.bool true) (by simp only [gT, gZ, gS]; rfl) (puO (by (intro w hSw; (try dsimp only at hSw); go_simp))) ?_
            simp only [Act.put, pA, pZ, pS]
            refine tkO 12 (.bool true) (by simp only [gT, gZ, gS]; rfl) (puO (by (intro w hSw; (try dsimp only at hSw); go_simp))) ?_
            refine wpAnyH_done (by kernel_rfl) ?_ _
            go_simp
            go_wp2
            go_ret
            exact ⟨rfl, hb⟩
           case bq133 =>
            rw [if_pos (by rfl)]
            (with_reducible refine s_conv (.slice (some ⟨N5, 0, none⟩) 513 cap5) (.string tx) (HCv.out _ N5 cap5 hC2) ?_ ?_)
            · exact rfl
            have hH2 := hide hHeld
            clear hHeld
            refine hK.out _ _ ?_ (fun hHeld => ?_)
            · exact hH2.out
            clear hK K
            clear hH2
            simp only [Act.put, pA, pZ, pS]
            refine skO 3 (by simp only [gT, gZ, gS]; rfl) (fun K hK => ?_)
            rw [if_pos (by rfl)]
            (with_reducible refine s_conv (.slice (some ⟨N3, 0, none⟩) 513 cap3) (.string tx) (HCv.out _ N3 cap3 hC1) ?_ ?_)
            · exact rfl
            have hH2 := hide hHeld
            clear hHeld
            refine hK.out _ _ ?_ (fun hHeld => ?_)
            · exact hH2.out
            clear hK K
            clear hH2
            simp only [Act.put, pA, pZ, pS]
            refine tkO 8 (.bool true) (by simp only [gT, gZ, gS]; rfl) (puO (by (intro w hSw; (try dsimp only at hSw); go_simp))) ?_
            simp only [Act.put, pA, pZ, pS]
            refine tkO 9 (.bool true) (by simp only [gT, gZ, gS]; rfl) (puO (by (intro w hSw; (try dsimp only at hSw); go_simp))) ?_
            simp only [Act.put, pA, pZ, pS]
            refine skO 10 (by simp only [gT, gZ, gS]; rfl) (fun K hK => ?_)
            rw [if_pos (by rfl)]
            go_simp
            (with_reducible refine (HSu.out _ hA).mono ?_)
            rintro e V9 ⟨rfl, hbc⟩
            have hH2 := hide (show B < V9.heap.size from Nat.lt_of_lt_of_le hHeld hbc.size)
            replace hb := hb.trans (hbc.mono (by omega))
            clear hHeld hbc
            go_simp
            refine hK.out _ _ ?_ (fun hHeld => ?_)
            · exact hH2.out
            clear hK K
            clear hH2
            refine tkO 11 (.bool true) (by simp only [gT, gZ, gS]; rfl) (puO (by (intro w hSw; (try dsimp only at hSw); go_simp))) ?_
            simp only [Act.put, pA, pZ, pS]
            refine tkO 12 (.bool true) (by simp only [gT, gZ, gS]; rfl) (puO (by (intro w hSw; (try dsimp only at hSw); go_simp))) ?_
            refine wpAnyH_done (by kernel_rfl) ?_ _
            go_simp
            go_wp2
            go_ret
            exact ⟨rfl, hb⟩
end Go.Proofs.YtaaiockiojejeaaGreatDoor
