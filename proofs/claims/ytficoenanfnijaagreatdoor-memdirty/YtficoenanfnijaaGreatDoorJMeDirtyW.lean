/-
  The walk of MemDirty.
-/
import Derived.Test.YtficoenanfnijaaGreatDoorJMeTwo
import Derived.Deep.CutRange
import Derived.Deep.CutBlock
namespace Go.Proofs.YtficoenanfnijaaGreatDoor
open Go.RowKit
set_option linter.unusedVariables false
attribute [local go_sem ↓] Go.wp_at_zero Go.wp_at_succ

theorem LoopIn.more {w w1 wr : World} {B b P D N n c cnt cnt' : Nat} {Z Z' : Nat → Prop} {m : Mem} {r : RP} (h : LoopIn w w1 wr B b P D N n c Z Z' m r cnt) (hc : cnt ≤ cnt') : LoopIn w w1 wr B b P D N n c Z Z' m r cnt' :=
  { ram := h.ram, ref := h.ref, base := h.base, off := h.off, small := h.small, row := h.row, offm := h.offm, offr := h.offr, low := h.low, bel := h.bel, hand := h.hand, glow := h.glow, same := h.same, count := Nat.le_trans h.count hc, stat := h.stat, stat' := h.stat' }
/-- A page's bytes. -/
def pg (m : Mem) (p : Nat) : List Nat := (List.range 4096).map fun j => m.dat p j
theorem pg_len (m : Mem) (p : Nat) : (pg m p).length = 4096 := by simp [pg]
theorem pg_at {m : Mem} {p o : Nat} (h : o < 4096) : ((pg m p)[o]?).getD 0 = m.dat p o := by unfold pg; rw [List.getElem?_map, List.getElem?_range h]; rfl
theorem pg_small {m : Mem} {p : Nat} (h : ∀ q o, m.dat q o < 256) : ∀ y, y ∈ pg m p → y < 256 := fun y hy => by
  obtain ⟨j, _, rfl⟩ := List.mem_map.1 hy
  exact h p j
theorem pg_src {W : World} {g : Nat} {m : Mem} {p : Nat} {f : Nat → Nat} (hf : f = m.dat p) (h : HoldsAt W g 4096 5 (fun o => .int .u8 (f o : Nat))) {j : Nat} {v : Value} (hj : (byteV (pg m p))[j]? = some v) : W.cell? ⟨g, j, none⟩ = some v := by
  have hj4 : j < 4096 := by have := (List.getElem?_eq_some_iff.1 hj).1; rwa [byteV_len, pg_len] at this
  subst hf
  rw [h.cell hj4, ← hj]
  unfold byteV pg
  rw [List.getElem?_map, List.getElem?_map, List.getElem?_range hj4]; rfl
theorem row_shape {W : World} {B : Nat} {v : Value} {l : List Nat} (h : W.ownsRow B 3 1 v l.length (intV l)) : ∃ sv cv, v = .slice sv l.length cv ∧ l.length ≤ cv ∧ cv ≤ maxLen ∧ (l.length = 0 ∨ ∃ g, sv = some ⟨g, 0, none⟩ ∧ B ≤ g ∧ g < W.heap.size ∧ ∀ j, j < l.length → W.cell? ⟨g, j, none⟩ = some (.int .i64 ((l[j]?).getD 0 : Nat))) := by
  by_cases h0 : l.length = 0
  · obtain ⟨_, ⟨rfl, _⟩ | ⟨g, cap, cur, rfl, _, _, h4, h5, _⟩⟩ := h
    · exact ⟨none, 0, by rw [h0], by omega, by unfold maxLen; omega, .inl h0⟩
    · exact ⟨_, cap, rfl, h4, h5, .inl h0⟩
  · obtain ⟨g, c, rfl, hH, h3, h4, h5⟩ := holds_of_own (f := fun j => .int .i64 ((l[j]?).getD 0 : Nat)) h (by omega) (fun j hj => by unfold intV; rw [List.getElem?_map, List.getElem?_eq_getElem hj]; rfl)
    exact ⟨_, c, rfl, h4, h5, .inr ⟨g, rfl, h3, hH.lt, fun j hj => hH.cell hj⟩⟩
theorem RamAt.dat_of {w : World} {B b P D : Nat} {m : Mem} (h : RamAt w B b P D m) (d : Nat → Nat → Nat) (hd : ∀ p o, p < m.n → d p o = m.dat p o) : RamAt w B b P D { m with dat := d } :=
  { head := h.head, zero := h.zero, pages := h.pages, marks := h.marks, bytes := fun p g hp hg => (h.bytes p g hp hg).congr (fun o ho => by rw [← hd p o hp]), noughts := fun p hp hn o => (hd p o hp).trans (h.noughts p hp hn o),
    low := h.low, apart := h.apart, alone := h.alone, few := h.few, caps := h.caps, room := h.room }
/-- Where Z is no matter: behind calls on two memories. -/
theorem LoopIn.two {w w1 wr w' : World} {B b P D N n c cnt : Nat} {m m' : Mem} {r : RP} {own : Nat → Prop} (h : LoopIn w w1 wr B b P D N n c (fun _ => False) (fun _ => False) m r cnt) (hR : RamAt w' B b P D m') (hl : Looked m m') (hz : m'.z = m.z ∨ ∃ x, m'.z = some x ∧ wr.heap.size ≤ x)
    (hk : Kept B wr w' own) (ho : ∀ x, own x → m.owns b P D x ∨ (¬ r.owns x ∧ x ≠ c)) : LoopIn w w' w' B b P D N n c (fun _ => False) (fun _ => False) m' r cnt := by
  have hnz : ∀ x, x < wr.heap.size → m.z ≠ some x → m'.z ≠ some x := fun x hx hn h1 => by
    rcases hz with e | ⟨y, e1, e2⟩
    · exact hn (e ▸ h1)
    · have : x = y := Option.some.inj (h1.symm.trans e1)
      omega
  have hr : ∀ x, r.owns x → w'.heap[x]? = wr.heap[x]? := fun x hx => hk.other x (h.ref.lt hx) (fun h1 => (ho x h1).elim (fun h2 => h.off x hx (.inl h2)) (fun h2 => h2.1 hx))
  have hc : w'.heap[c]? = wr.heap[c]? := hk.other c h.row.lt (fun h1 => (ho c h1).elim (fun h2 => h.offm (.inl h2)) (fun h2 => h2.2 rfl))
  exact { ram := hR, ref := by (rw [hl.at]; exact h.ref.same hr), base := Nat.le_trans h.base hk.size, off := fun x hx hh => hh.elim (fun h1 => h.off x hx (.inl (hl.owns.1 h1))) (hnz x (h.ref.lt hx) (fun h1 => h.off x hx (.inr h1))), small := by (rw [hl.dat]; exact h.small),
          row := hc.trans h.row, offm := fun hh => hh.elim (fun h1 => h.offm (.inl (hl.owns.1 h1))) (hnz c h.row.lt (fun h1 => h.offm (.inr h1))), offr := h.offr, low := h.low, bel := h.bel.trans hk.below, hand := h.hand, glow := h.glow, same := by (rw [hl.n]; exact h.same), count := by (rw [hl.wr]; exact h.count),
          stat := fun x hx => hx.elim, stat' := fun x hx => hx.elim }
/-- From here on other blocks are looked after. -/
theorem LoopIn.rebase {w w1 wr : World} {B b P D N n c cnt : Nat} {Z Z' : Nat → Prop} {m : Mem} {r : RP} (h : LoopIn w w1 wr B b P D N n c (fun _ => False) (fun _ => False) m r cnt) (hZ : ∀ x, Z x → x < wr.heap.size ∧ ¬ m.owns b P D x ∧ x ≠ c) (hZ' : ∀ x, Z' x → Z x ∧ m.z ≠ some x) : LoopIn w wr wr B b P D N n c Z Z' m r cnt :=
  { ram := h.ram, ref := h.ref, base := h.base, off := h.off, small := h.small, row := h.row, offm := h.offm, offr := h.offr, low := h.low, bel := h.bel, hand := h.hand, glow := h.glow, same := h.same, count := h.count, stat := fun x hx => ⟨(hZ x hx).1, (hZ x hx).2.1, (hZ x hx).2.2, rfl⟩, stat' := hZ' }
theorem loop_start {w W1 W2 W3 W4 : World} {b P D N n c : Nat} {r : RP} (h1 : RamAt W1 w.heap.size b P D (Mem.fresh n)) (hb1 : Below w.heap.size w W1) (h2 : RefAt W2 N n (fun _ => 0) r) (hb2 : Below W1.heap.size W1 W2) (ho : ∀ x, r.owns x → W1.heap.size ≤ x) (hc : W2.heap.size = c)
    (hb3 : Below W2.heap.size W2 W3) (hon : Only c W3 W4) (hrow : RowAt W4 c (r.v N n) 31) (hH : HandleAt w) : LoopIn w W4 W4 w.heap.size b P D N n c (fun _ => False) (fun _ => False) (Mem.fresh n) r 0 := by
  have hs1 := hb1.size
  have hs2 := hb2.size
  have hs3 := hb3.size
  have hlt : ∀ x, ((Mem.fresh n).owns b P D x ∨ (Mem.fresh n).z = some x) → x < W1.heap.size := fun x hx => hx.elim (fun h => h1.owned h) (fun h => h1.z_lt h)
  have hG : 0 < w.heap.size := lt_of_cell hH
  exact { ram := ((h1.bl hb2).bl hb3).same (fun x hx => hon.row x (by have := hlt x hx; omega)), ref := (h2.bl hb3).same (fun x hx => hon.row x (by have := h2.lt hx; omega)),
          base := by (rw [hon.size]; omega), off := fun x hx hh => by (have := hlt x hh; have := ho x hx; omega), small := fun p j => (by show (0 : Nat) < 256; omega), row := hrow, offm := fun hh => by (have := hlt c hh; omega), offr := fun hh => by (have := h2.lt hh; omega),
          low := by omega, bel := hon.bel _ _ (by omega) ((hb1.trans (hb2.mono hs1)).trans (hb3.mono (by omega))), hand := hH, glow := hG, same := rfl, count := Nat.le_refl _, stat := fun x hx => hx.elim, stat' := fun x hx => hx.elim }

set_option maxRecDepth 100000 in
set_option maxHeartbeats 4000000 in
theorem dirty_walk (sa1 sa2 : Option Addr) (len1 len2 cap1 cap2 : Nat) (A1 A2 : Nat → Act5) (L1 L2 : Nat → List Nat) (w : World) (hl1 : len1 ≤ 9223372036854775807) (hl2 : len2 ≤ 9223372036854775807) (hA1 : ActsAt w w.heap.size sa1 len1 A1 L1) (hA2 : ActsAt w w.heap.size sa2 len2 A2 L2) (hc1 : len1 ≤ cap1) (hc2 : len2 ≤ cap2) (hH : HandleAt w) :
    Calls Tryz.prog 3 #[.slice sa1 len1 cap1, .slice sa2 len2 cap2] w fun e w' => e = .returned (.bool true) ∧ Below w.heap.size w w' := by
  have HN := hide (new_ram 4 (by omega) (by omega) w)
  obtain ⟨b, hb⟩ : ∃ b, w.heap.size + 1 + 1 = b := ⟨_, rfl⟩
  rw [hb] at HN
  obtain ⟨N, hN⟩ : ∃ N, N = 16384 := ⟨_, rfl⟩
  obtain ⟨n, hn⟩ : ∃ n, n = 4 := ⟨_, rfl⟩
  have HRN : Hid (∀ W : World, Calls Tryz.prog 6 #[.int .i64 4] W fun e w' => (∃ r : RP, e = .returned (.tuple #[.agg (r.v N n), .int .i64 0]) ∧ RefAt w' N n (fun _ => 0) r ∧ ∀ x, r.owns x → W.heap.size ≤ x) ∧ Below W.heap.size W w') := hide (fun W => by subst hn; exact rnew_ok N 4 (by omega) (by omega) (by omega) W)
  have hN4 : ((4 : Nat) : Int) = 4 := rfl
  rw [hN4, ← hn] at HN
  have HHn := hide hH
  have HA1 := hide hA1
  have HA2 := hide hA2
  have Hn4 := hide hn
  have HN4 := hide hN
  clear hA1 hA2 hH hb hN hn hN4
  go_enter Tryz.func3, Tryz.ntmps3
  go_upto_block 0 with (first | (go_at_call 5; refine HN.out.mono ?_; rintro e W1 ⟨rfl, ⟨P, D, hx1⟩, hx2⟩; have HRam := hide hx1; have HB1 := hide hx2; clear hx1 hx2) | (go_at_call 6; refine (HRN.out W1).mono ?_; rintro e W2 ⟨⟨r, rfl, hx1, hx2⟩, hx3⟩; have HRef := hide hx1; have HRo := hide hx2; have HB2 := hide hx3; obtain ⟨c, hc⟩ : ∃ c, W2.heap.size = c := ⟨_, rfl⟩; have HC := hide hc; clear hx1 hx2 hx3 hc) | ((with_reducible refine al_R c ?_ ?_); exact HC.out; intro W3 hs hb3 hz3; have HB3 : Hid (Below W2.heap.size W2 W3) := hide (HC.out ▸ hb3); clear hb3) | ((with_reducible refine st_R c _ r N n hs ?_ ?_ ?_ ?_); exact rfl; exact rfl; exact rfl; intro W4 hnew ho4; have HL4 := hide (loop_start HRam.out HB1.out HRef.out HB2.out HRo.out HC.out HB3.out ho4 hnew HHn.out); clear hnew ho4 hs))
  go_cut [9] from 20 (fun s9 wx => ∃ m r, LoopIn w W4 wx w.heap.size b P D N n c (fun _ => False) (fun _ => False) m r 15)
  case first =>
    go_wp2_with (fail)
    go_loopw [9] (fun iv wr => ∃ (i : Nat) (m : Mem) (r : RP), i ≤ 15 ∧ iv = .int .i64 (i : Nat) ∧ LoopIn w W4 wr w.heap.size b P D N n c (fun _ => False) (fun _ => False) m r (0 + i)) (fun iv _ => 15 - (intOf iv).toNat)
    case atStart => exact ⟨0, Mem.fresh n, r, by omega, rfl, HL4.out⟩
    case round =>
      obtain ⟨i, m, r, hi, rfl, hL⟩ := hrel
      have HL := hide hL
      have i0 : (0 : Int) ≤ (i : Int) := by omega
      by_cases h1 : i < len1
      · have t1 : decide ((i : Int) < (len1 : Int)) = true := decide_eq_true (by omega)
        have t1' : decide (i < len1) = true := decide_eq_true h1
        by_cases h2 : i < 15
        · have t2 : decide ((i : Int) < 15) = true := decide_eq_true (by omega)
          have t2' : decide (i < 15) = true := decide_eq_true h2
          obtain ⟨ba, oa, rfl, k0, k1, k2, k3, k4⟩ := HA1.out.at hL.bel h1
          have HRaw := hide (HA1.out.raw i h1)
          have HBg := hide (fun W => big_any (A1 i) W (Nat.le_trans HRaw.out.cap.1 HRaw.out.cap.2))
          have HAc : Hid (∀ W, Below w.heap.size w W → (A1 i).L ≤ 20000 → ActAt W w.heap.size (A1 i) (L1 i)) := hide (fun W hb hf => HA1.out.act hb h1 hf)
          have i9 : (i : Int) < (len1 : Int) := by omega
          clear hL
          generalize A1 i = a at *
          generalize L1 i = l at *
          cases hbg : decide (20000 < a.L) with
          | true =>
            rw [hbg] at HBg
            go_wp2_with (go_at_call 7; refine (HBg.out _).mono ?_; rintro e W5 ⟨rfl, hx5⟩; have HL5 := hide (HL.out.bl hx5); have j0 := cell_bl hx5 k0; have j1 := cell_bl hx5 k1; have j2 := cell_bl hx5 k2; have j3 := cell_bl hx5 k3; have j4 := cell_bl hx5 k4; clear hx5)
            go_roundw
            case rel => exact ⟨i + 1, m, r, by omega, by go_num, HL5.out.more (by omega)⟩
            case measure => simp [intOf]; omega
          | false =>
            rw [hbg] at HBg
            have HLe : Hid (a.L ≤ 20000) := hide (by have := of_decide_eq_false hbg; omega)
            go_wp2_with (go_at_call 7; refine (HBg.out _).mono ?_; rintro e W5 ⟨rfl, hx5⟩; have HL5 := hide (HL.out.bl hx5); have j0 := cell_bl hx5 k0; have j1 := cell_bl hx5 k1; have j2 := cell_bl hx5 k2; have j3 := cell_bl hx5 k3; have j4 := cell_bl hx5 k4; clear hx5)
            have HSt := hide (step_any (HL5.out.dr.sin (by omega)) a l (HAc.out W5.drew HL5.out.dr.bel HLe.out) HL5.out.small)
            have hrw := HL5.out.row
            have n0 : W5.cell? ⟨c, 0, none⟩ = some (.slice (some ⟨r.gB, 0, none⟩) N r.cB) := hrw.cell 0
            have n1 : W5.cell? ⟨c, 1, none⟩ = some (.slice (some ⟨r.gD, 0, none⟩) n r.cD) := hrw.cell 1
            have n2 : W5.cell? ⟨c, 2, none⟩ = some (.int .i64 r.wr) := hrw.cell 2
            clear hrw k0 k1 k2 k3 k4
            go_region_with (first | (go_at_call 8; refine HSt.out.mono ?_; rintro e W6 ⟨m', r', bb, he, hM, hRf, hg, ho⟩; have he2 : e = .returned (.tuple #[.agg #[.slice (some ⟨r'.gB, 0, none⟩) N r'.cB, .slice (some ⟨r'.gD, 0, none⟩) n r'.cD, .int .i64 r'.wr], .bool bb]) := he; clear he; subst he2; have hr6 := HL5.out.dr.row.kept hM.kept (fun h1 => HL5.out.offm (.inl h1)); have u0 : W6.cell? ⟨c, 0, none⟩ = some (.slice (some ⟨r.gB, 0, none⟩) N r.cB) := hr6.cell 0; have u1 : W6.cell? ⟨c, 1, none⟩ = some (.slice (some ⟨r.gD, 0, none⟩) n r.cD) := hr6.cell 1; have u2 : W6.cell? ⟨c, 2, none⟩ = some (.int .i64 r.wr) := hr6.cell 2; have p0 := hr6.thaw 0; have p1 := hr6.thaw 1; have p2 := hr6.thaw 2; have HM := hide hM; have HRf := hide hRf; have HG := hide hg; have HO := hide ho; clear hM hRf hg ho hr6))
            all_goals
              go_simp
              go_wp2
              go_roundw
              case rel => exact ⟨i + 1, m'.norm, r', by omega, by go_num, HL5.out.dr.next HM.out HRf.out HG.out HO.out⟩
              case measure => simp [intOf]; omega
        · have t2 : decide ((i : Int) < 15) = false := decide_eq_false (by omega)
          have t2' : decide (i < 15) = false := decide_eq_false h2
          clear hL
          go_wp2_with (fail)
          go_meet
          case rel => exact ⟨m, r, HL.out.more (by omega)⟩
      · have t1 : decide ((i : Int) < (len1 : Int)) = false := decide_eq_false (by omega)
        have t1' : decide (i < len1) = false := decide_eq_false h1
        clear hL
        go_wp2_with (fail)
        go_meet
        case rel => exact ⟨m, r, HL.out.more (by omega)⟩

  case rest =>
    obtain ⟨m, r, hL⟩ := hcut
    have HL := hide hL
    have HHv := hide (harvest_any hL.ram hL.base (by rw [hL.same, Hn4.out]; omega))
    clear hL HL4 HRam HRef HRo HB1 HB2 HB3 HC
    go_wp2_with (first | (go_at_call 9; refine HHv.out.mono ?_; rintro e X1 ⟨v, rfl, hx1, hx2, hx3⟩; have HL1 := hide (HL.out.mem ⟨hx2, hx3, Stepped.clean'⟩ rfl HL.out.small HL.out.count); clear hx1 hx2 hx3))
    refine (clone_any HL1.out.ram HL1.out.base (by rw [HL1.out.same, Hn4.out]; omega)).mono ?_
    rintro e X2 ⟨cc, Q, E, k0, rfl, hx1, hx2, hx3, hx4, hx5, hx6, hx7⟩
    have HL2 := hide (HL1.out.bl hx7)
    have hx8 := hx1.dat_of m.clean.dat (fun p o hp => (hx6 p o (hx2 ▸ hp)).symm)
    obtain ⟨k, hk⟩ : ∃ k, ({ k0 with dat := m.clean.dat } : Mem) = k := ⟨_, rfl⟩
    rw [hk] at hx8
    have kn : k.n = m.n := by rw [← hk]; exact hx2
    have kd : k.dat = m.dat := by rw [← hk]; rfl
    have kz : k.z = none := by rw [← hk]; exact hx4
    have kw : k.wr ≤ 15 := by
      rw [← hk]
      show k0.wr ≤ 15
      rw [hx5]; exact HL1.out.count
    have HKo : Hid (∀ x, k.owns cc Q E x → X1.heap.size ≤ x) := hide (fun x hx => hx8.owns_low hx)
    have HK := hide (hx8.lower HL1.out.base)
    clear hx1 hx2 hx3 hx4 hx5 hx6 hx7 hx8 hk
    have HSm := hide (same_z HK.out HL2.out.ram HL2.out.base (show m.clean.n = k.n from kn.symm) ⟨fun x hx hh => by
      have h9 := HKo.out x hx
      rcases hh with h8 | h8
      · have := HL1.out.ram.owned h8; omega
      · have := HL1.out.ram.z_lt h8; omega⟩ ⟨fun x hx hh => by
      have h9 := HL1.out.ram.owned hx
      rcases hh with h8 | h8
      · have := HKo.out x h8; omega
      · rw [kz] at h8; cases h8⟩ (fun p o => by rw [kd]; exact HL.out.small p o) HL2.out.small)
    go_upto_block 2 with (first | (go_at_call 11; refine HSm.out.mono ?_; rintro e X3 ⟨⟨sm, rfl, hsm⟩, ⟨k1, m1, hx1, hx2, hx3, hx4, hx5, hx6, hx7, hx8⟩, hx9⟩; have hsm1 : sm = true := hsm.2 (fun p hp o ho => by (rw [kd]; rfl)); subst hsm1; have HLo1 := hide hx1; have HLo2 := hide hx2; have HK1 := hide hx3; have HO1 := hide hx5; have HO2 := hide hx6; have HZk := hide hx7; have HL3 := hide (HL2.out.two hx4 hx2 hx8 hx9 (fun x hx => hx.elim (fun h1 => .inr ⟨fun h2 => by (have := HKo.out x h1; have := HL1.out.ref.lt h2; omega), fun h2 => by (have := HKo.out x h1; have := HL1.out.row.lt; omega)⟩) .inl)); clear hx1 hx2 hx3 hx4 hx5 hx6 hx7 hx8 hx9 hsm))
    have hLr : LoopIn w X3 X3 w.heap.size b P D N n c (fun x => k1.owns cc Q E x ∨ k1.z = some x) (fun x => k1.owns cc Q E x) m1 r 15 := HL3.out.rebase (fun x hx => ⟨hx.elim (fun h => HK1.out.owned h) (fun h => HK1.out.z_lt h), fun h => HO2.out.no x h hx, fun e => by
        rcases hx with h | h
        · have := HKo.out x (HLo1.out.owns.1 h); have := HL1.out.row.lt; omega
        · rcases HZk.out with h2 | ⟨y, h2, h3⟩
          · rw [h2, kz] at h; cases h
          · have : x = y := Option.some.inj (h.symm.trans h2)
            have := HL2.out.row.lt; omega⟩) (fun x hx => ⟨.inl hx, fun h => HO1.out.no x hx (.inr h)⟩)
    have HLr := hide hLr
    have HIv : Hid (∀ p, m1.dirty p = false → ∀ o, o < 4096 → m1.dat p o = m.dat p o) := hide (fun p _ o _ => by rw [HLo2.out.dat]; rfl)
    have HK1n : Hid (k1.n = n) := hide (by rw [HLo1.out.n, kn]; exact HL.out.same)
    have HK1d : Hid (k1.dat = m.dat) := hide (by rw [HLo1.out.dat, kd])
    have HK1w : Hid (k1.wr ≤ 15) := hide (by rw [HLo1.out.wr]; exact kw)
    have HSml := hide HL.out.small
    clear hLr HSm HK HKo HZk kn kd kz kw HL1 HL2 HL3 HHv HLo1 HLo2 HO1 HO2 HL
    generalize m.dat = K0 at *
    clear m
    go_cut [11] from 20 (fun s11 wx => ∃ m r, LoopIn w X3 wx w.heap.size b P D N n c (fun x => k1.owns cc Q E x ∨ k1.z = some x) (fun x => k1.owns cc Q E x) m r 30 ∧ ∀ p, m.dirty p = false → ∀ o, o < 4096 → m.dat p o = K0 p o)
    case first =>
      go_wp2_with (fail)
      go_loopw [11] (fun iv wr => ∃ (i : Nat) (m : Mem) (r : RP), i ≤ 15 ∧ iv = .int .i64 (i : Nat) ∧ LoopIn w X3 wr w.heap.size b P D N n c (fun x => k1.owns cc Q E x ∨ k1.z = some x) (fun x => k1.owns cc Q E x) m r (15 + i) ∧ ∀ p, m.dirty p = false → ∀ o, o < 4096 → m.dat p o = K0 p o) (fun iv _ => 15 - (intOf iv).toNat)
      case atStart => exact ⟨0, m1, r, by omega, rfl, HLr.out, HIv.out⟩
      case round =>
        obtain ⟨i, m, r, hi, rfl, hL, hIv⟩ := hrel
        have HL := hide hL
        have HIm := hide hIv
        clear hIv
        have i0 : (0 : Int) ≤ (i : Int) := by omega
        by_cases h1 : i < len2
        · have t1 : decide ((i : Int) < (len2 : Int)) = true := decide_eq_true (by omega)
          have t1' : decide (i < len2) = true := decide_eq_true h1
          by_cases h2 : i < 15
          · have t2 : decide ((i : Int) < 15) = true := decide_eq_true (by omega)
            have t2' : decide (i < 15) = true := decide_eq_true h2
            obtain ⟨ba, oa, rfl, k0, k1, k2, k3, k4⟩ := HA2.out.at hL.bel h1
            have HRaw := hide (HA2.out.raw i h1)
            have HBg := hide (fun W => big_any (A2 i) W (Nat.le_trans HRaw.out.cap.1 HRaw.out.cap.2))
            have HAc : Hid (∀ W, Below w.heap.size w W → (A2 i).L ≤ 20000 → ActAt W w.heap.size (A2 i) (L2 i)) := hide (fun W hb hf => HA2.out.act hb h1 hf)
            have i9 : (i : Int) < (len2 : Int) := by omega
            clear hL
            generalize A2 i = a at *
            generalize L2 i = l at *
            cases hbg : decide (20000 < a.L) with
            | true =>
              rw [hbg] at HBg
              go_wp2_with (go_at_call 7; refine (HBg.out _).mono ?_; rintro e W5 ⟨rfl, hx5⟩; have HL5 := hide (HL.out.bl hx5); have j0 := cell_bl hx5 k0; have j1 := cell_bl hx5 k1; have j2 := cell_bl hx5 k2; have j3 := cell_bl hx5 k3; have j4 := cell_bl hx5 k4; clear hx5)
              go_roundw
              case rel => exact ⟨i + 1, m, r, by omega, by go_num, HL5.out.more (by omega), HIm.out⟩
              case measure => simp [intOf]; omega
            | false =>
              rw [hbg] at HBg
              have HLe : Hid (a.L ≤ 20000) := hide (by have := of_decide_eq_false hbg; omega)
              have hkd := kind_eq a
              by_cases hk7 : a.kind = 7
              · rw [hk7] at hkd
                have t7 : ((((7 : Nat) : Int)) != 7) = false := by rfl
                go_wp2_with (go_at_call 7; refine (HBg.out _).mono ?_; rintro e W5 ⟨rfl, hx5⟩; have HL5 := hide (HL.out.bl hx5); have j0 := cell_bl hx5 k0; have j1 := cell_bl hx5 k1; have j2 := cell_bl hx5 k2; have j3 := cell_bl hx5 k3; have j4 := cell_bl hx5 k4; clear hx5)
                go_roundw
                case rel => exact ⟨i + 1, m, r, by omega, by go_num, HL5.out.more (by omega), HIm.out⟩
                case measure => simp [intOf]; omega
              · have t7 : (((a.kind : Nat) : Int) != 7) = true := by simp; omega
                have hk7b : (a.kind == 7) = false := by simpa using hk7
                go_wp2_with (go_at_call 7; refine (HBg.out _).mono ?_; rintro e W5 ⟨rfl, hx5⟩; have HL5 := hide (HL.out.bl hx5); have j0 := cell_bl hx5 k0; have j1 := cell_bl hx5 k1; have j2 := cell_bl hx5 k2; have j3 := cell_bl hx5 k3; have j4 := cell_bl hx5 k4; clear hx5)
                have HSt := hide (step_any (HL5.out.dr.sin (by omega)) a l (HAc.out W5.drew HL5.out.dr.bel HLe.out) HL5.out.small)
                have hrw := HL5.out.row
                have n0 : W5.cell? ⟨c, 0, none⟩ = some (.slice (some ⟨r.gB, 0, none⟩) N r.cB) := hrw.cell 0
                have n1 : W5.cell? ⟨c, 1, none⟩ = some (.slice (some ⟨r.gD, 0, none⟩) n r.cD) := hrw.cell 1
                have n2 : W5.cell? ⟨c, 2, none⟩ = some (.int .i64 r.wr) := hrw.cell 2
                clear hrw k0 k1 k2 k3 k4
                go_region_with (first | (go_at_call 8; refine HSt.out.mono ?_; rintro e W6 ⟨m', r', bb, he, hM, hRf, hg, ho⟩; have he2 : e = .returned (.tuple #[.agg #[.slice (some ⟨r'.gB, 0, none⟩) N r'.cB, .slice (some ⟨r'.gD, 0, none⟩) n r'.cD, .int .i64 r'.wr], .bool bb]) := he; clear he; subst he2; have hr6 := HL5.out.dr.row.kept hM.kept (fun h1 => HL5.out.offm (.inl h1)); have u0 : W6.cell? ⟨c, 0, none⟩ = some (.slice (some ⟨r.gB, 0, none⟩) N r.cB) := hr6.cell 0; have u1 : W6.cell? ⟨c, 1, none⟩ = some (.slice (some ⟨r.gD, 0, none⟩) n r.cD) := hr6.cell 1; have u2 : W6.cell? ⟨c, 2, none⟩ = some (.int .i64 r.wr) := hr6.cell 2; have p0 := hr6.thaw 0; have p1 := hr6.thaw 1; have p2 := hr6.thaw 2; have HM := hide hM; have HRf := hide hRf; have HG := hide hg; have HO := hide ho; clear hM hRf hg ho hr6))
                all_goals
                  go_simp
                  go_wp2
                  go_roundw
                  case rel => exact ⟨i + 1, m'.norm, r', by omega, by go_num, HL5.out.dr.next HM.out HRf.out HG.out HO.out, fun p hp o ho => (m'.norm_dat p ho).trans (((HM.out.st.clean hk7b p hp).2 o ho).trans (HIm.out p (HM.out.st.clean hk7b p hp).1 o ho))⟩
                  case measure => simp [intOf]; omega
          · have t2 : decide ((i : Int) < 15) = false := decide_eq_false (by omega)
            have t2' : decide (i < 15) = false := decide_eq_false h2
            clear hL
            go_wp2_with (fail)
            go_meet
            case rel => exact ⟨m, r, HL.out.more (by omega), HIm.out⟩
        · have t1 : decide ((i : Int) < (len2 : Int)) = false := decide_eq_false (by omega)
          have t1' : decide (i < len2) = false := decide_eq_false h1
          clear hL
          go_wp2_with (fail)
          go_meet
          case rel => exact ⟨m, r, HL.out.more (by omega), HIm.out⟩

    case rest =>
      obtain ⟨m, r, hL, hIv⟩ := hcut
      obtain ⟨Y0, rfl⟩ : ∃ Y0, Y0 = wc := ⟨_, rfl⟩
      have hTw : ∀ Y1, Below Y0.heap.size Y0 Y1 → Two w Y0 Y1 Y1 w.heap.size b P D cc Q E n m m k1 0 := fun Y1 hb =>
        { lm := Looked.refl m, mn := hL.same, ms := hL.small, rm := hL.ram.bl hb, rk := (HK1.out.same (fun x hx => (hL.stat x hx).2.2.2)).bl hb, kn := HK1n.out,
          o1 := ⟨fun x hx hh => (hL.stat x hh).2.1 hx⟩, o2 := ⟨fun x hx hh => hh.elim (fun h => (hL.stat x (.inl hx)).2.1 h) (fun h => (hL.stat' x hx).2 h)⟩,
          ks := by (rw [HK1d.out]; exact HSml.out), kw := HK1w.out, eq := fun q o ho hq => hq.elim (fun h => absurd h (Nat.not_lt_zero _)) (fun h => by (rw [HK1d.out]; exact (hIv q h o ho).symm)),
          ko := fun x hx => .inl (hL.stat x (.inl hx)).1, mo := fun x hx => hL.ram.owned hx, mid := fun _ _ _ => rfl, bel := hL.bel.trans (hb.mono hL.base), base := Nat.le_trans hL.base hb.size, sz := Nat.le_refl _, s0 := hb.size }
      have HTw := hide hTw
      have HDi := hide (dirty_any hL.ram)
      have HD4 : Hid (∀ p, p < 4 → (dirtyTo m m.n).any (· == p) = m.dirty p) := hide (fun p hp => dirty_any_mem m m.n p (by rw [hL.same, Hn4.out]; exact hp))
      have HDb : Hid ((dirtyTo m m.n).length ≤ 16384) := hide (Nat.le_trans (dirtyTo_len m m.n) hL.ram.few)
      clear hTw hL hIv HK1 HK1n HK1d HK1w HSml HLr HIv
      go_upto_block 4 with (first | (go_at_call 12; refine HDi.out.mono ?_; rintro e Y1 ⟨v, rfl, hx1, hx2⟩; have HT0 := hide (HTw.out Y1 hx2); obtain ⟨sv, cv, rfl, hcv1, hcv2, hx3⟩ := row_shape hx1; have HDv := hide hx3; clear hx1 hx2 hx3))
      generalize dirtyTo m m.n = dl at *
      have hdb := HDb.out
      unfold maxLen at hcv2
      clear HTw HDi HDb
      go_cut [13] from 20 (fun s13 wx => ∃ m' k', Two w Y0 Y1 wx w.heap.size b P D cc Q E n m m' k' 4)
      case first =>
        go_wp2_with (fail)
        go_loopw [13] (fun pv wr => ∃ (p : Nat) (m' k' : Mem), p ≤ 4 ∧ pv = .int .i64 (p : Nat) ∧ Two w Y0 Y1 wr w.heap.size b P D cc Q E n m m' k' p) (fun pv _ => 4 - (intOf pv).toNat)
        case atStart => exact ⟨0, m, k1, by omega, rfl, HT0.out⟩
        case round =>
          obtain ⟨p, m', k', hp, rfl, hT⟩ := hrel
          have HT := hide hT
          clear hT HT0
          have p0 : (0 : Int) ≤ (p : Int) := by omega
          by_cases hlt : p < 4
          · have t1 : decide ((p : Int) < 4) = true := decide_eq_true (by omega)
            have t1' : decide (p < 4) = true := decide_eq_true hlt
            go_upto_block 6 with (fail)
            go_cut [14] from 115 to 129 (fun s14 wx => s14 = .bool (m.dirty p) ∧ wx = wr)
            case first =>
              go_wp2_with (fail)
              go_loop [14, 15] (fun sb iv => ∃ i : Nat, i ≤ dl.length ∧ iv = .int .i64 (i : Nat) ∧ sb = .bool ((dl.take i).any (· == p))) (fun _ iv => dl.length - (intOf iv).toNat)
              case atStart => exact ⟨0, Nat.zero_le _, rfl, by simp⟩
              case round =>
                obtain ⟨i, hi, rfl, rfl⟩ := hrel
                by_cases h1 : i < dl.length
                · have t2 : decide ((i : Int) < (dl.length : Int)) = true := decide_eq_true (by omega)
                  have t2' : decide (i < dl.length) = true := decide_eq_true h1
                  have i0 : (0 : Int) ≤ (i : Int) := by omega
                  have i9 : (i : Int) < (dl.length : Int) := by omega
                  obtain ⟨g, rfl, hg1, hg2, hg3⟩ := HDv.out.resolve_left (by omega)
                  have hci : wr.cell? ⟨g, i, none⟩ = some (.int .i64 ((dl[i]?).getD 0 : Nat)) := (cell_of_heap (HT.out.mid g hg1 hg2) i).trans (hg3 i h1)
                  have HSu := hide (any_take_succ dl p i h1)
                  clear hg3
                  generalize (dl[i]?).getD 0 = y at hci HSu
                  generalize (dl.take i).any (· == p) = s1 at HSu ⊢
                  cases s1 with
                  | true =>
                    have HSv : Hid ((dl.take (i + 1)).any (· == p) = true) := hide (by rw [HSu.out]; rfl)
                    clear HSu
                    go_wp2
                    go_round
                    case rel => exact ⟨i + 1, by omega, by go_num, by rw [HSv.out]⟩
                    case measure => simp [intOf]; omega
                  | false =>
                    cases hyp : ((y : Int) == (p : Int)) with
                    | true =>
                      have HSv : Hid ((dl.take (i + 1)).any (· == p) = true) := hide (by
                        have h9 : (y : Int) = (p : Int) := eq_of_beq hyp
                        have h8 : y = p := by omega
                        rw [HSu.out, h8]
                        simp)
                      clear HSu
                      go_wp2
                      go_round
                      case rel => exact ⟨i + 1, by omega, by go_num, by rw [HSv.out]⟩
                      case measure => simp [intOf]; omega
                    | false =>
                      have HSv : Hid ((dl.take (i + 1)).any (· == p) = false) := hide (by
                        rw [HSu.out]
                        have hne : (y : Int) ≠ (p : Int) := fun e => by rw [e] at hyp; simp at hyp
                        have : (y == p) = false := by simp; omega
                        rw [this]; rfl)
                      clear HSu
                      go_wp2
                      go_round
                      case rel => exact ⟨i + 1, by omega, by go_num, by rw [HSv.out]⟩
                      case measure => simp [intOf]; omega
                · have t2 : decide ((i : Int) < (dl.length : Int)) = false := decide_eq_false (by omega)
                  have t2' : decide (i < dl.length) = false := decide_eq_false h1
                  have HE : Hid ((dl.take i).any (· == p) = m.dirty p) := hide (by rw [List.take_of_length_le (by omega)]; exact HD4.out p hlt)
                  generalize (dl.take i).any (· == p) = s1 at HE ⊢
                  go_wp2_with (fail)
                  go_meet
                  case rel => exact ⟨by rw [HE.out], rfl⟩
            case rest =>
              obtain ⟨rfl, rfl⟩ := hcut
              have HP1 := hide (page_z HT.out.rk HT.out.base p (by rw [HT.out.kn, Hn4.out]; exact hlt))
              have HP2 : Hid (∀ W k2, Two w Y0 Y1 W w.heap.size b P D cc Q E n m m' k2 p → Calls Tryz.prog 13 #[.pointer (some ⟨b, 0, none⟩), .int .i64 p] W fun e w' => e = .returned (.tuple #[.slice (some ⟨W.heap.size, 0, none⟩) 4096 4096, .nilIface]) ∧ HoldsAt w' W.heap.size 4096 5 (fun o => .int .u8 (m'.dat p o : Nat)) ∧ (∃ m2, Looked m' m2 ∧ RamAt w' w.heap.size b P D m2 ∧ (m2.z = m'.z ∨ ∃ x, m2.z = some x ∧ W.heap.size ≤ x)) ∧ Kept w.heap.size W w' (m'.owns b P D)) := hide (fun W k2 h => page_z h.rm h.base p (by rw [h.lm.n, h.mn, Hn4.out]; exact hlt))
              have HMs : Hid (∀ j, m'.dat p j < 256) := hide (fun j => by rw [HT.out.lm.dat]; exact HT.out.ms p j)
              cases hd : m.dirty p with
              | false =>
                have HE : Hid (pageL (k'.dat p) = pageL (m'.dat p)) := hide ((pageL_eq (HT.out.ks p) HMs.out).2 (fun j hj => by rw [HT.out.lm.dat]; exact HT.out.eq p j hj (.inr hd)))
                go_wp2_with (first | (go_at_call 13; (with_reducible refine HP1.out.mono ?_); rintro e V1 ⟨rfl, hx1, ⟨k2, hx2, hx3, hx4⟩, hx5⟩; have HT1 := hide (HT.out.lookK hx2 hx3 hx4 hx5); have HPa := hide hx1; have HK2n := hide hx2; have HV1 := hide hx5.size; clear hx1 hx2 hx3 hx4 hx5) | (go_at_call 13; (with_reducible refine (HP2.out V1 k2 HT1.out).mono ?_); rintro e V2 ⟨rfl, hy1, ⟨m2, hy2, hy3, hy4⟩, hy5⟩; have HT2 := hide (HT1.out.lookM hy2 hy3 hy4 hy5); have HPb := hide hy1; have HPa2 := hide (hy5.holds HPa.out (fun h => by (have := HT.out.rm.owned h; omega))); have g1 := str_of_page (c := 4096) (HT.out.ks p) HPa2.out; have g2 := str_of_page (c := 4096) HMs.out HPb.out; rw [HE.out] at g1; generalize pageL (m'.dat p) = st at g1 g2; clear hy1 hy2 hy3 hy4 hy5))
                go_roundw
                case rel => exact ⟨p + 1, m2, k2, by omega, by go_num, HT2.out.next hd⟩
                case measure => simp [intOf]; omega
              | true =>
                go_wp2_with (first | (go_at_call 13; (with_reducible refine HP1.out.mono ?_); rintro e V1 ⟨rfl, hx1, ⟨k2, hx2, hx3, hx4⟩, hx5⟩; have HT1 := hide (HT.out.lookK hx2 hx3 hx4 hx5); have HPa := hide hx1; have HK2n := hide hx2; have HV1 := hide hx5.size; clear hx1 hx2 hx3 hx4 hx5) | (go_at_call 13; (with_reducible refine (HP2.out V1 k2 HT1.out).mono ?_); rintro e V2 ⟨rfl, hy1, ⟨m2, hy2, hy3, hy4⟩, hy5⟩; have HT2 := hide (HT1.out.lookM hy2 hy3 hy4 hy5); have HPb := hide hy1; have HPa2 := hide (hy5.holds HPa.out (fun h => by (have := HT.out.rm.owned h; omega))); clear hy1 hy2 hy3 hy4 hy5) | (go_at_call 14; refine (set_all HT2.out.rk HT2.out.base p (by (rw [HK2n.out.n, HT.out.kn, Hn4.out]; exact hlt)) (pg m p) (pg_len m p) V1.heap.size 0 4096 (Nat.le_refl _) (fun j v hj => by (rw [Nat.zero_add]; exact pg_src (by (rw [HT.out.lm.dat])) HPb.out hj)) HPb.out.lt (fun h => by (have := HT.out.rk.owned (HK2n.out.owns.1 h); have := HV1.out; omega)) (Nat.le_trans HT2.out.kw (by omega))).mono ?_; rintro e V3 ⟨rfl, ⟨gg, hz1, hz2⟩, hz3⟩; have HT3 := hide (HT2.out.set hz1 hz2 hz3 (pg_len m p) (pg_small HT.out.ms) (fun o ho => pg_at ho)); clear hz1 hz2 hz3))
                go_roundw
                case rel => exact ⟨p + 1, m2, _, by omega, by go_num, HT3.out⟩
                case measure => simp [intOf]; omega
          · obtain rfl : p = 4 := by omega
            go_wp2_with (fail)
            go_meet
            case rel => exact ⟨m', k', HT.out⟩
      case rest =>
        obtain ⟨m', k', hT⟩ := hcut
        have HT := hide hT
        have HSm := hide (same_z hT.rk hT.rm hT.base (by rw [hT.lm.n, hT.mn, hT.kn]) hT.o2 hT.o1 hT.ks (by rw [hT.lm.dat]; exact hT.ms))
        have HSr := hide sure_any
        clear hT
        go_wp2_with (first | (go_at_call 11; refine HSm.out.mono ?_; rintro e V1 ⟨⟨sm, rfl, hsm⟩, hx1, hx2⟩; have hsm1 : sm = true := hsm.2 (fun p hp o ho => by (rw [HT.out.lm.dat]; exact HT.out.eq p o ho (.inl (by (rw [HT.out.kn, Hn4.out] at hp; exact hp))))); subst hsm1; have HBe := hide (HT.out.bel.trans hx2.below); clear hx1 hx2 hsm) | (go_at_call 15; refine (HSr.out _).mono ?_; rintro e V2 ⟨rfl, hx3⟩; have HBf := hide (HBe.out.trans (hx3.mono HBe.out.size)); clear hx3))
        go_ret
        exact ⟨rfl, HBf.out⟩
end Go.Proofs.YtficoenanfnijaaGreatDoor
