/-
  mem's Read within the memory, whatever pages are there.
-/
import Derived.Test.YtghpjibjhaomoaaGreatDoorJMeSee
import Derived.Test.YtghpjibjhaomoaaGreatDoorJMeRead
import Derived.Test.YtghpjibjhaomoaaGreatDoorJMeStore
namespace Go.Proofs.YtghpjibjhaomoaaGreatDoor
open Go.RowKit
set_option linter.unusedVariables false
attribute [local go_sem ↓] Go.wp_at_zero Go.wp_at_succ

/-- A memory stays where none of its blocks changes. -/
theorem RamAt.same {w w' : World} {B b P D : Nat} {m : Mem} (h : RamAt w B b P D m) (e : ∀ x, (m.owns b P D x ∨ m.z = some x) → w'.heap[x]? = w.heap[x]?) : RamAt w' B b P D m :=
  { head := (e b (.inl (.inl rfl))).trans h.head, zero := fun g hg => (by (obtain ⟨z1, z2⟩ := h.zero g hg; exact ⟨z1.of_heap (e g (.inr hg)), z2⟩)),
    pages := h.pages.of_heap (e P (.inl (.inr (.inl rfl)))), marks := h.marks.of_heap (e D (.inl (.inr (.inr (.inl rfl))))),
    bytes := fun q g hq hg => (h.bytes q g hq hg).of_heap (e g (.inl (.inr (.inr (.inr ⟨q, hq, hg⟩))))), noughts := h.noughts, low := h.low, apart := h.apart, alone := h.alone, few := h.few, caps := h.caps, room := h.room }
theorem copy_seen {w : World} {g o O N d c cp : Nat} {q f : Nat → Value} (hG : HoldsAt w g 4096 5 q) (hO : HoldsAt w O N 5 f) (hc : MinIs c N d o) (V : List Value) (hV : V = (List.range c).map fun j => q (o + j)) (h1 : ∀ j, (q j).oneCell' = true) :
    TakeOk w O N d g o c cp V := by
  subst hV
  unfold MinIs at hc
  unfold TakeOk
  have hl : ((List.range c).map fun j => q (o + j)).length = c := by simp
  have hle : c ≤ 4096 - o := by rw [hc]; exact Nat.min_le_right _ _
  have hle2 : c ≤ N - d := by rw [hc]; exact Nat.min_le_left _ _
  have := run_copy_cells (P := Tryz.prog) w 28 28 3 5 O d (N - d) (N - d) ⟨g, o, none⟩ (4096 - o) (cp - o) ((List.range c).map fun j => q (o + j)) Tryz.underlying28 (by kernel_rfl) (hl.trans (hc.trans (Nat.min_comm _ _)))
    (fun j v hj => by
      have hjc : j < c := by rw [← hl]; exact (List.getElem?_eq_some_iff.1 hj).1
      rw [Addr.add_lit, hG.cell (j := o + j) (by omega), ← hj, List.getElem?_map, List.getElem?_range hjc]; rfl)
    (fun j hj => by rw [hO.cell (j := d + j) (by omega)]; rfl) (fun j hj => hO.thaw (d + j))
    (fun v hv => by
      simp only [List.mem_map] at hv
      obtain ⟨x, _, rfl⟩ := hv
      exact h1 _)
  rw [this, hl]
  rfl
theorem RamAt.z_lt {w : World} {B b P D : Nat} {m : Mem} (h : RamAt w B b P D m) {x : Nat} (hz : m.z = some x) : x < w.heap.size := (h.zero x hz).1.lt

set_option maxHeartbeats 1000000 in
theorem read_all {w : World} {B b P D : Nat} {m : Mem} (h : RamAt w B b P D m) (hB : B ≤ w.heap.size) (a : Nat) (ha : a < 4294967296) (N : Nat) (hl0 : 0 < N) (hin : a + N ≤ m.n * 4096) :
    Calls Tryz.prog 23 #[.pointer (some ⟨b, 0, none⟩), .int .u32 a, .int .i64 N] w fun e w' => e = .returned (.tuple #[.slice (some ⟨w.heap.size, 0, none⟩) N N, .nilIface]) ∧ HoldsAt w' w.heap.size N 5 (readV m a N) ∧
      (∃ m', Looked m m' ∧ RamAt w' B b P D m') ∧ Kept B w w' (m.owns b P D) := by
  have HHas := hide (has_some b P m.n a ha h.few (N : Int) (by omega) (by have := h.few; omega) w h.pagesAt)
  rw [decide_eq_true (show ((a : Int) + (N : Int) ≤ (m.n : Int) * 4096) by omega)] at HHas
  have hfew := h.few
  have hmk := run_make_row' (P := Tryz.prog) 28 5 (.int .u8 0) 1 Tryz.underlying28 (by kernel_rfl) rfl .i64 .i64 N (by omega) (by omega)
  have HR := hide h
  have i8 : (0 : Int) ≤ (N : Int) := by omega
  have i9 : N ≤ 67108864 := by omega
  have HZ : Hid (HoldsAt (w.alloc (.cells (madeCells #[.int .u8 0] N) 5)) w.heap.size N 5 (readV m a 0)) :=
    hide ((HoldsAt.made (RowAt.new w _ _ _ rfl)).congr (fun j _ => by rw [readV, if_neg (by omega)]))
  have HOw : Hid (∀ x, m.owns b P D x → x < w.heap.size) := hide (fun x hx => h.owned hx)
  have HZl : Hid (∀ x, m.z = some x → x ≠ w.heap.size) := hide (fun x hx => by have := h.z_lt hx; omega)
  clear h
  have HSp : Hid (∀ d p o : Nat, d ≤ N → p = (a + d) / 4096 → o = (a + d) % 4096 → ∀ w : World, Calls Tryz.prog 49 #[.int .u32 ((a : Int) + (d : Int))] w fun e w' => e = .returned (.tuple #[.int .i64 p, .int .i64 o]) ∧ w' = w) := by
    refine hide (fun d p o hd hp ho w => ?_)
    rw [hp, ho]
    exact split_any (a + d) (by omega) w
  go_enter Tryz.func23, Tryz.ntmps23
  go_wp2_with (first | (go_at_call 48; refine HHas.out.mono ?_; rintro e w1 ⟨rfl, rfl⟩))
  go_loopw [9] (fun dv wr => ∃ d m', d ≤ N ∧ dv = .int .i64 (d : Nat) ∧ HoldsAt wr w1.heap.size N 5 (readV m a d) ∧ Looked m m' ∧ RamAt wr B b P D m' ∧ Kept B w1 wr (m.owns b P D) ∧ ∀ x, m'.z = some x → x ≠ w1.heap.size) (fun dv _ => N - (intOf dv).toNat)
  case atStart => exact ⟨0, m, Nat.zero_le _, rfl, HZ.out, Looked.refl m, HR.out.bl (below_one _ _), Kept.of (below_one _ _) hB, HZl.out⟩
  case round =>
    obtain ⟨d, m', hd, rfl, hH, hLk, hM, hK, hz⟩ := hrel
    have HH := hide hH
    have HLk := hide hLk
    have HM := hide hM
    have HK := hide hK
    have HZ' := hide hz
    clear hH hLk hM hK hz HHas
    by_cases hlt : d < N
    · obtain ⟨p, hp⟩ : ∃ p, p = (a + d) / 4096 := ⟨_, rfl⟩
      obtain ⟨o, ho⟩ : ∃ o, o = (a + d) % 4096 := ⟨_, rfl⟩
      have HSd := hide (HSp.out d p o hd hp ho)
      have hpk : p < m.n := by omega
      have hpl : p < 16384 := by omega
      have ho9 : o < 4096 := by omega
      have HP := hide hp
      have HO := hide ho
      clear hp ho
      have HT := hide (look_any (p := p) HM.out.dr (Nat.le_trans hB HK.out.size) (by rw [HLk.out.n]; exact hpk))
      have hcp0 := (HR.out.caps p hpk).1
      have hcp9 := (HR.out.caps p hpk).2.1
      unfold maxLen at hcp9
      rw [HLk.out.cap] at HT
      generalize m.cap p = cp at HT hcp0 hcp9
      have hsz := HH.out.lt
      go_wp2_with (first | (go_at_call 49; refine (HSd.out _).mono ?_; rintro e w2 ⟨rfl, rfl⟩))
      obtain ⟨c, hc⟩ : ∃ c, c = Nat.min (N - d) (4096 - o) := ⟨_, rfl⟩
      have hc1 : 0 < c := by rw [hc]; exact Nat.lt_min.2 ⟨by omega, by omega⟩
      have hc2 : d + c ≤ N := by have : Nat.min (N - d) (4096 - o) ≤ N - d := Nat.min_le_left _ _; omega
      have hc3 : o + c ≤ 4096 := by have : Nat.min (N - d) (4096 - o) ≤ 4096 - o := Nat.min_le_right _ _; omega
      have HC : MinIs c N d o := hc
      have HC1 := hide hc1
      have HC2 := hide hc2
      have HC3 := hide hc3
      clear hc hc1 hc2 hc3
      go_region_with (first | (go_at_call 50; refine HT.out.mono ?_; rintro e w3 ⟨g, m2, rfl, hx1, hx2, hx3, hx4, hx5, hx6⟩; have HL3 := hide hx1; have HM3 := hide hx2; have HG3 := hide hx3; have HK3 := hide hx4; have HZ3 := hide hx6; have HO3 := hide (hx4.holds HH.out.dr (fun ho => Nat.lt_irrefl _ (HOw.out _ (HLk.out.owns.1 ho)))); clear hx1 hx2 hx3 hx4 hx5 hx6) | (have hcp := copy_seen (cp := cp) HG3.out HO3.out HC (pageB m p o c) (by (unfold pageB; rw [HLk.out.dat])) (fun j => rfl); with_reducible rw [TakeOk.eq hcp]; clear hcp))
      all_goals
        go_simp
        go_wp2
        have hdc := HC2.out
        have hw : IntKind.i64.wrap ((d : Int) + (c : Int)) = ((d + c : Nat) : Int) := by rw [IntKind.wrap_i64]; omega
        rw [hw]
        go_roundw
        case rel =>
          have hz2 : ∀ x, m2.z = some x → x ≠ w1.heap.size := fun x hx => by
            rcases HZ3.out with e | ⟨y, e1, e2⟩
            · exact HZ'.out x (e ▸ hx)
            · have : x = y := Option.some.inj (hx.symm.trans e1)
              have h9 : w2.drew.heap.size = w2.heap.size := rfl
              omega
          refine ⟨d + c, m2, HC2.out, rfl, read_step HO3.out HP.out HO.out HC2.out HC3.out, HLk.out.trans HL3.out, ?_, ?_, hz2⟩
          · exact HM3.out.same (fun x hx => heap_setCells _ _ _ _ _ (fun e => by
              rcases hx with hx | hx
              · have := HOw.out x (HLk.out.owns.1 (HL3.out.owns.1 hx)); omega
              · exact hz2 x hx e))
          · have k1 := HK.out.dr.then HK3.out (fun x _ hx => HLk.out.owns.1 hx)
            exact ⟨k1.below.trans (Kept.sets (B := B) (own := fun x => x = w1.heap.size) rfl hB _ _).below, by (rw [size_setCells]; exact k1.size), fun x hx hn => (heap_setCells _ _ _ _ _ (by omega)).trans (k1.other x hx hn)⟩
        case measure => have := HC1.out; show N - (((d + c : Nat) : Int)).toNat < N - ((d : Int)).toNat; omega
    · obtain rfl : d = N := by omega
      go_wp2
      go_ret2
      exact ⟨rfl, HH.out, ⟨m', HLk.out, HM.out⟩, HK.out⟩
end Go.Proofs.YtghpjibjhaomoaaGreatDoor
