/-
  What mem's Write does within the memory.
-/
import Derived.Test.YtalcgipcephnnaaDoorJMeWrote
namespace Go.Proofs.YtalcgipcephnnaaDoor
open Go.RowKit
set_option linter.unusedVariables false
attribute [local go_sem ↓] Go.wp_at_zero Go.wp_at_succ

theorem RamAt.dr {w : World} {B b P D : Nat} {m : Mem} (h : RamAt w B b P D m) : RamAt w.drew B b P D m := by
  have hr := h.head
  exact { head := hr.dr, zero := fun g hg => (by (obtain ⟨z1, z2⟩ := h.zero g hg; exact ⟨z1.dr, z2⟩)), pages := h.pages.dr, marks := h.marks.dr, bytes := fun q g hq hg => (h.bytes q g hq hg).dr, noughts := h.noughts, low := h.low, apart := h.apart, alone := h.alone, few := h.few, caps := h.caps, room := h.room }

theorem RamAt.count {w : World} {B b P D : Nat} {m : Mem} (h : RamAt w B b P D m) : RamAt (w.setCell ⟨b, 2, none⟩ (.int .i64 ((m.wr : Nat) + 1))) B b P D { m with wr := m.wr + 1 } := by
  have hr := h.head
  obtain ⟨a1, a2, a3, a4⟩ := h.apart
  exact { head := hr.put 2 _, zero := fun g hg => (by (obtain ⟨z1, z2, z3, z4⟩ := h.zero g hg; exact ⟨z1.far z3 _ _, z2, z3, z4⟩)), pages := h.pages.far (fun e => a1 e.symm) _ _, marks := h.marks.far (fun e => a2 e.symm) _ _, bytes := fun q g hq hg => (h.bytes q g hq hg).far (a4 q g hq hg).1 _ _, noughts := h.noughts, low := h.low, apart := h.apart, alone := h.alone, few := h.few, caps := h.caps, room := h.room }
theorem cell_of_heap {w w' : World} {x : Nat} (e : w'.heap[x]? = w.heap[x]?) (j : Nat) : w'.cell? ⟨x, j, none⟩ = w.cell? ⟨x, j, none⟩ := by
  simp only [World.cell?, e]

def CopyOk (w : World) (g o N d sb so sc c cp : Nat) (V : List Value) : Prop :=
    (Builtin.copy_ #[43, 43] 3 #[.slice (some ⟨g, o, none⟩) (4096 - o) (cp - o), .slice (some ⟨sb, so + d, none⟩) (N - d) (sc - d)]).run Tryd.prog w = .ok (.int .i64 c) (w.setCells g o V)
theorem CopyOk.eq {w : World} {g o N d sb so sc c cp : Nat} {V : List Value} (h : CopyOk w g o N d sb so sc c cp V) :
    (Builtin.copy_ #[43, 43] 3 #[.slice (some ⟨g, o, none⟩) (4096 - o) (cp - o), .slice (some ⟨sb, so + d, none⟩) (N - d) (sc - d)]).run Tryd.prog w = .ok (.int .i64 c) (w.setCells g o V) := h
def MinIs (c N d o : Nat) : Prop := c = Nat.min (N - d) (4096 - o)

theorem copy_put {w : World} {B b P D : Nat} {k : Mem} (h : RamAt w B b P D k) {p g o : Nat} (hp : p < k.n) (hg : k.blk p = some g) (l : List Nat) (N d c : Nat) (hN : l.length = N) (hc : MinIs c N d o) (sb so sc cp : Nat)
    (hsrc : ∀ j v, (byteV l)[j]? = some v → w.cell? ⟨sb, so + j, none⟩ = some v) :
    CopyOk w g o N d sb so sc c cp (byteV ((l.drop d).take c)) := by
  unfold MinIs at hc
  unfold CopyOk
  have hl : (byteV ((l.drop d).take c)).length = c := by
    have : Nat.min (N - d) (4096 - o) ≤ N - d := Nat.min_le_left _ _
    simp [byteV]; omega
  have hle : c ≤ 4096 - o := by rw [hc]; exact Nat.min_le_right _ _
  have hb := h.bytes p g hp hg
  have := run_copy_cells (P := Tryd.prog) w 43 43 3 5 g o (4096 - o) (cp - o) ⟨sb, so + d, none⟩ (N - d) (sc - d) (byteV ((l.drop d).take c)) Tryd.underlying43 (by kernel_rfl) (hl.trans hc)
    (fun j v hj => by
      have hjc : j < c := by rw [← hl]; exact (List.getElem?_eq_some_iff.1 hj).1
      rw [Addr.add_lit, Nat.add_assoc]
      refine hsrc (d + j) v ?_
      rw [← hj, byteV, byteV, List.getElem?_map, List.getElem?_map, List.getElem?_take_of_lt hjc, List.getElem?_drop])
    (fun j hj => by rw [hb.cell (j := o + j) (by omega)]; rfl) (fun j hj => hb.thaw (o + j))
    (fun v hv => by
      simp only [byteV, List.mem_map] at hv
      obtain ⟨x, _, rfl⟩ := hv
      rfl)
  rw [this, hl]; rfl

set_option maxHeartbeats 600000 in
theorem write_some {w : World} {B b P D : Nat} {m : Mem} (h : RamAt w B b P D m) (hB : B ≤ w.heap.size) (a : Nat) (ha : a < 4294967296) (l : List Nat) (N : Nat) (hN : l.length = N) (hl0 : 0 < N) (hin : a + N ≤ m.n * 4096)
    (sb so sc : Nat) (hsc : N ≤ sc) (hsrc : ∀ j v, (byteV l)[j]? = some v → w.cell? ⟨sb, so + j, none⟩ = some v) (hsl : sb < w.heap.size) (hso : ¬ m.owns b P D sb) (hwr : m.wr ≤ 1000000) :
    Calls Tryd.prog 31 #[.pointer (some ⟨b, 0, none⟩), .int .u32 a, .slice (some ⟨sb, so, none⟩) N sc] w fun e w' => e = .returned .nilIface ∧ ∃ k, Wrote m k w.heap.size a l N ∧ RamAt w' B b P D { k with wr := k.wr + 1 } ∧ Kept B w w' (m.owns b P D) := by
  have HHas := hide (has_some b P m.n a ha h.few (N : Int) (by omega) (by have := h.few; omega) w h.pagesAt)
  rw [decide_eq_true (show ((a : Int) + (N : Int) ≤ (m.n : Int) * 4096) by omega)] at HHas
  have HR := hide h
  have HN := hide hN
  have HS := hide hsrc
  have hfew := h.few
  have hne : ((N : Int) == 0) = false := by simp; omega
  have i9 : N ≤ 67108864 := by omega
  clear h hN hsrc
  have HSp : Hid (∀ d p o : Nat, d ≤ N → p = (a + d) / 4096 → o = (a + d) % 4096 → ∀ w : World, Calls Tryd.prog 42 #[.int .u32 ((a : Int) + (d : Int))] w fun e w' => e = .returned (.tuple #[.int .i64 p, .int .i64 o]) ∧ w' = w) := by
    refine hide (fun d p o hd hp ho w => ?_)
    rw [hp, ho]
    exact split_any (a + d) (by omega) w
  go_enter Tryd.func31, Tryd.ntmps31
  go_wp2_with (first | (go_at_call 41; refine HHas.out.mono ?_; rintro e w1 ⟨rfl, rfl⟩))
  go_loopw [7] (fun dv wr => ∃ d k, d ≤ N ∧ dv = .int .i64 (d : Nat) ∧ Wrote m k w1.heap.size a l d ∧ RamAt wr B b P D k ∧ Kept B w1 wr (m.owns b P D)) (fun dv _ => N - (intOf dv).toNat)
  case atStart => exact ⟨0, m, Nat.zero_le _, rfl, Wrote.start _ _ _ _, HR.out, Kept.refl _ _ _⟩
  case round =>
    obtain ⟨d, k, hd, rfl, hW, hM, hK⟩ := hrel
    have HW := hide hW
    have HM := hide hM
    have HK := hide hK
    clear hW hM hK HHas
    by_cases hlt : d < N
    · obtain ⟨p, hp⟩ : ∃ p, p = (a + d) / 4096 := ⟨_, rfl⟩
      obtain ⟨o, ho⟩ : ∃ o, o = (a + d) % 4096 := ⟨_, rfl⟩
      have HSd := hide (HSp.out d p o hd hp ho)
      have hpk : p < k.n := by rw [HW.out.n]; omega
      have hpl : p < 16384 := by omega
      have ho9 : o < 4096 := by omega
      have HT := hide (touch_ram HM.out.dr (Nat.le_trans hB HK.out.size) hpk)
      have hcp0 := (HM.out.caps p hpk).1
      have hcp9 := (HM.out.caps p hpk).2.1
      unfold maxLen at hcp9
      generalize k.cap p = cp at HT hcp0 hcp9
      have HP := hide hp
      have HO := hide ho
      clear hp ho
      go_wp2_with (first | (go_at_call 42; refine (HSd.out _).mono ?_; rintro e w2 ⟨rfl, rfl⟩))
      obtain ⟨c, hc⟩ : ∃ c, c = Nat.min (N - d) (4096 - o) := ⟨_, rfl⟩
      have hc1 : 0 < c := by rw [hc]; exact Nat.lt_min.2 ⟨by omega, by omega⟩
      have hc2 : d + c ≤ N := by have : Nat.min (N - d) (4096 - o) ≤ N - d := Nat.min_le_left _ _; omega
      have hc3 : o + c ≤ 4096 := by have : Nat.min (N - d) (4096 - o) ≤ 4096 - o := Nat.min_le_right _ _; omega
      have HC : MinIs c N d o := hc
      have HC1 := hide hc1
      have HC2 := hide hc2
      have HC3 := hide hc3
      have hc9 : c ≤ 67108864 := by omega
      clear hc hc1 hc2 hc3
      go_region_with (first | (go_at_call 57; refine HT.out.mono ?_; rintro e w3 ⟨g, rfl, hM3, hK3, hg3⟩; have HM3 := hide hM3; have HK3 := hide hK3; have HG3 := hide hg3; clear hM3 hK3 hg3) | (have hcp := copy_put HM3.out (p := p) hpk (upd_same _ _ _) l N d c HN.out HC sb so sc cp (fun j v hj => (cell_of_heap ((HK.out.dr.then HK3.out (fun x hx hy => HW.out.owns hx hy)).other sb hsl hso) _).trans (HS.out j v hj)); with_reducible rw [CopyOk.eq hcp]; clear hcp))
      all_goals
        go_simp
        go_wp2
        have hdc := HC2.out
        have hw : IntKind.i64.wrap ((d : Int) + (c : Int)) = ((d + c : Nat) : Int) := by rw [IntKind.wrap_i64]; omega
        rw [hw]
        go_roundw
        case rel =>
          refine ⟨d + c, (k.touched p g).put p o ((l.drop d).take c), HC2.out, rfl, ?_, ?_, ?_⟩
          · exact HW.out.step HP.out HO.out HC1.out HC3.out (by rw [HN.out]; exact HC2.out) (HG3.out.imp id (fun e => e.2)) HK.out.size (fun g' hg' => by
              rcases HG3.out with e | e
              · exact Option.some.inj (hg'.symm.trans e)
              · rw [e.1] at hg'; cases hg')
          · exact HM3.out.puts (p := p) hpk (upd_same _ _ _) _ (by
              have := HC3.out
              have h2 : ((l.drop d).take c).length ≤ c := List.length_take_le _ _
              exact Nat.le_trans (Nat.add_le_add_left h2 o) this)
          · refine (HK.out.dr.then HK3.out (fun x hx hy => HW.out.owns hx hy)).then (Kept.sets (own := (k.touched p g).owns b P D) (.inr (.inr (.inr ⟨p, hpk, upd_same _ _ _⟩))) (HM3.out.low.2.2.2 p g hpk (upd_same _ _ _)) _ _) (fun x hx hy => ?_)
            rcases hy with h1 | h1 | h1 | ⟨q, h1, h2⟩
            · exact .inl h1
            · exact .inr (.inl h1)
            · exact .inr (.inr (.inl h1))
            · have hq : upd k.blk p (some g) q = some x := h2
              have hsz := HK.out.size
              by_cases hqp : q = p
              · subst hqp
                rw [upd_same] at hq
                obtain rfl := Option.some.inj hq
                rcases HG3.out with e | e
                · exact HW.out.owns hx (.inr (.inr (.inr ⟨q, h1, e⟩)))
                · exact absurd (Nat.lt_of_lt_of_le hx hsz) (Nat.not_lt.2 e.2)
              · rw [upd_other _ _ hqp] at hq
                exact HW.out.owns hx (.inr (.inr (.inr ⟨q, h1, hq⟩)))
        case measure => have := HC1.out; show N - (((d + c : Nat) : Int)).toNat < N - ((d : Int)).toNat; omega
    · obtain rfl : d = N := by omega
      have hr := HM.out.head
      have hwk : k.wr ≤ 1000000 := by rw [HW.out.wr]; exact hwr
      have HA := hide (add_any b 2 (k.wr : Nat) wr (hr.cell 2) (hr.thaw 2) (by omega) (by omega))
      clear hr
      go_wp2_with (first | (go_at_call 58; refine HA.out.mono ?_; rintro e w4 ⟨rfl, rfl⟩))
      go_ret
      exact ⟨rfl, k, HW.out, HM.out.count, HK.out.trans (Kept.set (.inl rfl) HM.out.low.1 _)⟩
end Go.Proofs.YtalcgipcephnnaaDoor
