/-
  What mem's Read does within the memory, where every page is there.
-/
import Derived.Test.YtghpjibjhaomoaaGreatDoorJMeWrite
namespace Go.Proofs.YtghpjibjhaomoaaGreatDoor
open Go.RowKit
set_option linter.unusedVariables false
attribute [local go_sem ↓] Go.wp_at_zero Go.wp_at_succ

def pageB (m : Mem) (p o c : Nat) : List Value := (List.range c).map fun j => .int .u8 (m.dat p (o + j) : Nat)
def TakeOk (w : World) (O N d g o c cp : Nat) (V : List Value) : Prop :=
    (Builtin.copy_ #[28, 28] 3 #[.slice (some ⟨O, d, none⟩) (N - d) (N - d), .slice (some ⟨g, o, none⟩) (4096 - o) (cp - o)]).run Tryz.prog w = .ok (.int .i64 c) (w.setCells O d V)
theorem TakeOk.eq {w : World} {O N d g o c cp : Nat} {V : List Value} (h : TakeOk w O N d g o c cp V) :
    (Builtin.copy_ #[28, 28] 3 #[.slice (some ⟨O, d, none⟩) (N - d) (N - d), .slice (some ⟨g, o, none⟩) (4096 - o) (cp - o)]).run Tryz.prog w = .ok (.int .i64 c) (w.setCells O d V) := h

theorem copy_take {w : World} {B b P D : Nat} {m : Mem} (h : RamAt w B b P D m) {p g o : Nat} (hp : p < m.n) (hg : m.blk p = some g) (O N d c cp : Nat) (f : Nat → Value) (hO : HoldsAt w O N 5 f) (hc : MinIs c N d o) :
    TakeOk w O N d g o c cp (pageB m p o c) := by
  unfold MinIs at hc
  unfold TakeOk
  have hl : (pageB m p o c).length = c := by simp [pageB]
  have hle : c ≤ 4096 - o := by rw [hc]; exact Nat.min_le_right _ _
  have hle2 : c ≤ N - d := by rw [hc]; exact Nat.min_le_left _ _
  have hb := h.bytes p g hp hg
  have := run_copy_cells (P := Tryz.prog) w 28 28 3 5 O d (N - d) (N - d) ⟨g, o, none⟩ (4096 - o) (cp - o) (pageB m p o c) Tryz.underlying28 (by kernel_rfl) (hl.trans (hc.trans (Nat.min_comm _ _)))
    (fun j v hj => by
      have hjc : j < c := by rw [← hl]; exact (List.getElem?_eq_some_iff.1 hj).1
      rw [Addr.add_lit, hb.cell (j := o + j) (by omega), ← hj, pageB, List.getElem?_map, List.getElem?_range hjc]; rfl)
    (fun j hj => by rw [hO.cell (j := d + j) (by omega)]; rfl) (fun j hj => hO.thaw (d + j))
    (fun v hv => by
      simp only [pageB, List.mem_map] at hv
      obtain ⟨x, _, rfl⟩ := hv
      rfl)
  rw [this, hl]; rfl

/-- The bytes of a stretch, d of them read. -/
def readV (m : Mem) (a d j : Nat) : Value := if j < d then .int .u8 (m.at (a + j) : Nat) else .int .u8 0

theorem readV_lt {m : Mem} {a d j : Nat} (h : j < d) : readV m a d j = .int .u8 (m.at (a + j) : Nat) := if_pos h
theorem readV_ge {m : Mem} {a d j : Nat} (h : ¬ j < d) : readV m a d j = .int .u8 0 := if_neg h
theorem read_step {w : World} {m : Mem} {O N a d p o c : Nat} (h : HoldsAt w O N 5 (readV m a d)) (hp : p = (a + d) / 4096) (ho : o = (a + d) % 4096) (hc : d + c ≤ N) (hoc : o + c ≤ 4096) :
    HoldsAt (w.setCells O d (pageB m p o c)) O N 5 (readV m a (d + c)) := by
  refine (h.puts (pageB m p o c) d (by simpa [pageB] using hc)).congr (fun j hj => ?_)
  by_cases h1 : d ≤ j
  · rw [if_pos h1]
    by_cases h2 : j < d + c
    · have e : m.at (a + j) = m.dat p (o + (j - d)) := by
        show m.dat ((a + j) / 4096) ((a + j) % 4096) = _
        rw [show (a + j) / 4096 = p by omega, show (a + j) % 4096 = o + (j - d) by omega]
      rw [readV_lt h2, e, pageB, List.getElem?_map, List.getElem?_range (by omega)]; rfl
    · rw [List.getElem?_eq_none (by simp [pageB]; omega)]
      rw [readV_ge h2, readV_ge (show ¬ j < d by omega)]; rfl
  · rw [if_neg h1, readV_lt (show j < d by omega), readV_lt (show j < d + c by omega)]

set_option maxHeartbeats 600000 in
theorem read_some {w : World} {B b P D : Nat} {m : Mem} (h : RamAt w B b P D m) (a : Nat) (ha : a < 4294967296) (N : Nat) (hl0 : 0 < N) (hin : a + N ≤ m.n * 4096) (hth : ∀ x, a ≤ x → x < a + N → m.blk (x / 4096) ≠ none) :
    Calls Tryz.prog 23 #[.pointer (some ⟨b, 0, none⟩), .int .u32 a, .int .i64 N] w fun e w' => e = .returned (.tuple #[.slice (some ⟨w.heap.size, 0, none⟩) N N, .nilIface]) ∧ HoldsAt w' w.heap.size N 5 (readV m a N) ∧ Below w.heap.size w w' := by
  have HHas := hide (has_some b P m.n a ha h.few (N : Int) (by omega) (by have := h.few; omega) w h.pagesAt)
  rw [decide_eq_true (show ((a : Int) + (N : Int) ≤ (m.n : Int) * 4096) by omega)] at HHas
  have hfew := h.few
  have hmk := run_make_row' (P := Tryz.prog) 28 5 (.int .u8 0) 1 Tryz.underlying28 (by kernel_rfl) rfl .i64 .i64 N (by omega) (by omega)
  have HR := hide h
  have HTh := hide hth
  have i8 : (0 : Int) ≤ (N : Int) := by omega
  have i9 : N ≤ 67108864 := by omega
  have HZ : Hid (HoldsAt (w.alloc (.cells (madeCells #[.int .u8 0] N) 5)) w.heap.size N 5 (readV m a 0)) :=
    hide ((HoldsAt.made (RowAt.new w _ _ _ rfl)).congr (fun j _ => by rw [readV, if_neg (by omega)]))
  have HLk : Hid (∀ (w' : World) (p g : Nat), Below w.heap.size w w' → p < m.n → m.blk p = some g → Calls Tryz.prog 50 #[.pointer (some ⟨b, 0, none⟩), .int .i64 p] w' fun e w'' => e = .returned (.slice (some ⟨g, 0, none⟩) 4096 (m.cap p)) ∧ Below w'.heap.size w' w'') :=
    hide (fun w' p g hb hp hg => look_ram (h.bl hb) hp hg)
  clear h hth
  have HSp : Hid (∀ d p o : Nat, d ≤ N → p = (a + d) / 4096 → o = (a + d) % 4096 → ∀ w : World, Calls Tryz.prog 49 #[.int .u32 ((a : Int) + (d : Int))] w fun e w' => e = .returned (.tuple #[.int .i64 p, .int .i64 o]) ∧ w' = w) := by
    refine hide (fun d p o hd hp ho w => ?_)
    rw [hp, ho]
    exact split_any (a + d) (by omega) w
  go_enter Tryz.func23, Tryz.ntmps23
  go_wp2_with (first | (go_at_call 48; refine HHas.out.mono ?_; rintro e w1 ⟨rfl, rfl⟩))
  go_loopw [9] (fun dv wr => ∃ d, d ≤ N ∧ dv = .int .i64 (d : Nat) ∧ HoldsAt wr w1.heap.size N 5 (readV m a d) ∧ Below w1.heap.size w1 wr) (fun dv _ => N - (intOf dv).toNat)
  case atStart => exact ⟨0, Nat.zero_le _, rfl, HZ.out, (Below.refl _ w1).alloc (Nat.le_refl _) _⟩
  case round =>
    obtain ⟨d, hd, rfl, hH, hBe⟩ := hrel
    have HH := hide hH
    have HB := hide hBe
    clear hH hBe HHas
    by_cases hlt : d < N
    · obtain ⟨p, hp⟩ : ∃ p, p = (a + d) / 4096 := ⟨_, rfl⟩
      obtain ⟨o, ho⟩ : ∃ o, o = (a + d) % 4096 := ⟨_, rfl⟩
      have HSd := hide (HSp.out d p o hd hp ho)
      have hpk : p < m.n := by omega
      have hpl : p < 16384 := by omega
      have ho9 : o < 4096 := by omega
      obtain ⟨g, hg⟩ : ∃ g, m.blk p = some g := by
        have := HTh.out (a + d) (by omega) (by omega)
        rw [← hp] at this
        exact Option.ne_none_iff_exists'.1 this
      have HG := hide hg
      have hcp0 := (HR.out.caps p hpk).1
      have hcp9 := (HR.out.caps p hpk).2.1
      unfold maxLen at hcp9
      have HL1 := hide (fun w' hb => HLk.out w' p g hb hpk hg)
      generalize m.cap p = cp at HL1 hcp0 hcp9
      have HP := hide hp
      have HO := hide ho
      clear hp ho hg
      go_wp2_with (first | (go_at_call 49; refine (HSd.out _).mono ?_; rintro e w2 ⟨rfl, rfl⟩))
      obtain ⟨c, hc⟩ : ∃ c, c = Nat.min (N - d) (4096 - o) := ⟨_, rfl⟩
      have hc1 : 0 < c := by rw [hc]; exact Nat.lt_min.2 ⟨by omega, by omega⟩
      have hc2 : d + c ≤ N := by have : Nat.min (N - d) (4096 - o) ≤ N - d := Nat.min_le_left _ _; omega
      have hc3 : o + c ≤ 4096 := by have : Nat.min (N - d) (4096 - o) ≤ 4096 - o := Nat.min_le_right _ _; omega
      have HC : MinIs c N d o := hc
      have HC1 := hide hc1
      have HC2 := hide hc2
      have HC3 := hide hc3
      clear hc hc1 hc2 hc3
      go_region_with (first | (go_at_call 50; refine (HL1.out _ HB.out.drew).mono ?_; rintro e w3 ⟨rfl, hx3⟩; have HB3 := hide (((Below.refl _ w2).drew).trans hx3); clear hx3) | (have hcp := copy_take (HR.out.bl (HB.out.trans (HB3.out.mono HB.out.size))) (p := p) hpk HG.out w1.heap.size N d c cp _ (HH.out.bl HB3.out) HC; with_reducible rw [TakeOk.eq hcp]; clear hcp))
      all_goals
        go_simp
        go_wp2
        have hdc := HC2.out
        have hw : IntKind.i64.wrap ((d : Int) + (c : Int)) = ((d + c : Nat) : Int) := by rw [IntKind.wrap_i64]; omega
        rw [hw]
        go_roundw
        case rel =>
          refine ⟨d + c, HC2.out, rfl, read_step (HH.out.bl HB3.out) HP.out HO.out HC2.out HC3.out, ?_⟩
          exact (HB.out.trans (HB3.out.mono HB.out.size)).trans ((Kept.sets (B := w1.heap.size) (own := fun x => x = w1.heap.size) rfl (Nat.le_refl _) _ _).below)
        case measure => have := HC1.out; show N - (((d + c : Nat) : Int)).toNat < N - ((d : Int)).toNat; omega
    · obtain rfl : d = N := by omega
      go_wp2
      go_ret2
      exact ⟨rfl, HH.out, HB.out⟩
end Go.Proofs.YtghpjibjhaomoaaGreatDoor
