/-
  What mem's Read does within the memory, where every page is there.
-/
import Derived.Test.YtbggkoahofnnjaaDoorJK2
namespace Go.Proofs.YtbggkoahofnnjaaDoor
open Go.RowKit
set_option linter.unusedVariables false

def Mem.at (m : Mem) (x : Nat) : Nat := m.dat (x / 4096) (x % 4096)
structure Wrote (m k : Mem) (S a : Nat) (l : List Nat) (d : Nat) : Prop where
  n : k.n = m.n
  wr : k.wr = m.wr
  z : k.z = m.z
  dat : ∀ x, k.at x = if a ≤ x ∧ x < a + d then (l[x - a]?).getD 0 else m.at x
  dirty : ∀ p, k.dirty p = true ↔ (m.dirty p = true ∨ ∃ x, a ≤ x ∧ x < a + d ∧ x / 4096 = p)
  old : ∀ p g, k.blk p = some g → m.blk p = some g ∨ S ≤ g
  keep : ∀ p g, m.blk p = some g → k.blk p = some g
  there : ∀ x, a ≤ x → x < a + d → k.blk (x / 4096) ≠ none
theorem Wrote.start (m : Mem) (S a : Nat) (l : List Nat) : Wrote m m S a l 0 :=
  { n := rfl, wr := rfl, z := rfl, dat := fun x => by rw [if_neg (by omega)], dirty := fun p => ⟨.inl, fun h => h.elim id (fun ⟨x, h1, h2, _⟩ => absurd h2 (by omega))⟩,
    old := fun p g h => .inl h, keep := fun p g h => h, there := fun x h1 h2 => absurd h2 (by omega) }
theorem Wrote.step {m k : Mem} {S a : Nat} {l : List Nat} {d : Nat} (h : Wrote m k S a l d) {p o c g S' : Nat} (hp : p = (a + d) / 4096) (ho : o = (a + d) % 4096) (hc0 : 0 < c) (hc1 : o + c ≤ 4096) (hc2 : d + c ≤ l.length)
    (hg : k.blk p = some g ∨ S' ≤ g) (hS : S ≤ S') (hold : ∀ g', k.blk p = some g' → g' = g) : Wrote m ((k.touched p g).put p o ((l.drop d).take c)) S a l (d + c) := by
  have hlen : ((l.drop d).take c).length = c := by simp; omega
  refine { n := h.n, wr := h.wr, z := h.z, dat := fun x => ?_, dirty := fun q => ?_, old := fun q g' hq => ?_, keep := fun q g' hq => ?_, there := fun x h1 h2 => ?_ }
  · have e : ((k.touched p g).put p o ((l.drop d).take c)).at x = if x / 4096 = p ∧ o ≤ x % 4096 then (((l.drop d).take c)[x % 4096 - o]?).getD (k.at x) else k.at x := rfl
    rw [e, h.dat x]
    by_cases hx : a + d ≤ x ∧ x < a + (d + c)
    · rw [if_pos (show a ≤ x ∧ x < a + (d + c) by omega), if_pos (by omega), show x % 4096 - o = x - a - d by omega, List.getElem?_take_of_lt (by omega), List.getElem?_drop, show d + (x - a - d) = x - a by omega]
      rw [List.getElem?_eq_getElem (by omega)]; rfl
    · by_cases hy : a ≤ x ∧ x < a + d
      · rw [if_pos hy, if_pos (show a ≤ x ∧ x < a + (d + c) by omega)]
        rw [if_neg (by omega)]
      · rw [if_neg hy, if_neg (show ¬ (a ≤ x ∧ x < a + (d + c)) by omega)]
        by_cases hz : x / 4096 = p ∧ o ≤ x % 4096
        · rw [if_pos hz, List.getElem?_eq_none (by rw [hlen]; omega)]; rfl
        · rw [if_neg hz]
  · have e : ((k.touched p g).put p o ((l.drop d).take c)).dirty q = upd k.dirty p true q := rfl
    rw [e]
    by_cases hq : q = p
    · subst hq
      rw [upd_same]
      exact ⟨fun _ => .inr ⟨a + d, by omega, by omega, hp.symm⟩, fun _ => rfl⟩
    · rw [upd_other _ _ hq, h.dirty q]
      constructor
      · rintro (h1 | ⟨x, h1, h2, h3⟩)
        · exact .inl h1
        · exact .inr ⟨x, h1, by omega, h3⟩
      · rintro (h1 | ⟨x, h1, h2, h3⟩)
        · exact .inl h1
        · exact .inr ⟨x, h1, by omega, h3⟩
  · have e : upd k.blk p (some g) q = some g' := hq
    by_cases hqp : q = p
    · subst hqp
      rw [upd_same] at e
      obtain rfl := Option.some.inj e
      rcases hg with h1 | h1
      · exact h.old _ _ h1
      · exact .inr (by omega)
    · rw [upd_other _ _ hqp] at e
      exact h.old _ _ e
  · show upd k.blk p (some g) q = some g'
    by_cases hqp : q = p
    · subst hqp
      rw [upd_same, hold g' (h.keep _ _ hq)]
    · rw [upd_other _ _ hqp]; exact h.keep _ _ hq
  · show upd k.blk p (some g) (x / 4096) ≠ none
    by_cases hqp : x / 4096 = p
    · rw [hqp, upd_same]; simp
    · rw [upd_other _ _ hqp]
      exact h.there x h1 (by omega)

theorem Wrote.owns {m k : Mem} {S a : Nat} {l : List Nat} {d : Nat} (h : Wrote m k S a l d) {b P D x : Nat} (hx : x < S) (ho : k.owns b P D x) : m.owns b P D x := by
  rcases ho with h1 | h1 | h1 | ⟨p, h1, h2⟩
  · exact .inl h1
  · exact .inr (.inl h1)
  · exact .inr (.inr (.inl h1))
  · rcases h.old p x h2 with h3 | h3
    · exact .inr (.inr (.inr ⟨p, h.n ▸ h1, h3⟩))
    · omega
theorem Kept.then {B : Nat} {a b c : World} {own own' : Nat → Prop} (h : Kept B a b own) (k : Kept B b c own') (i : ∀ x, x < a.heap.size → own' x → own x) : Kept B a c own :=
  ⟨h.below.trans k.below, Nat.le_trans h.size k.size, fun x hx hn => (k.other x (Nat.lt_of_lt_of_le hx h.size) (fun e => hn (i x hx e))).trans (h.other x hx hn)⟩
end Go.Proofs.YtbggkoahofnnjaaDoor
namespace Go.Proofs.YtbggkoahofnnjaaDoor
open Go.RowKit
set_option linter.unusedVariables false
attribute [local go_sem ↓] Go.wp_at_zero Go.wp_at_succ

theorem RamAt.dr {w : World} {B b P D : Nat} {m : Mem} (h : RamAt w B b P D m) : RamAt w.drew B b P D m := by
  have hr := h.head
  exact { head := hr.dr, zero := fun g hg => (by (obtain ⟨z1, z2⟩ := h.zero g hg; exact ⟨z1.dr, z2⟩)), pages := h.pages.dr, marks := h.marks.dr, bytes := fun q g hq hg => (h.bytes q g hq hg).dr, noughts := h.noughts, low := h.low, apart := h.apart, alone := h.alone, few := h.few, caps := h.caps, room := h.room }

theorem RamAt.count {w : World} {B b P D : Nat} {m : Mem} (h : RamAt w B b P D m) : RamAt (w.setCell ⟨b, 2, none⟩ (.int .i64 ((m.wr : Nat) + 1))) B b P D { m with wr := m.wr + 1 } := by
  have hr := h.head
  obtain ⟨a1, a2, a3, a4⟩ := h.apart
  exact { head := hr.put 2 _, zero := fun g hg => (by (obtain ⟨z1, z2, z3, z4⟩ := h.zero g hg; exact ⟨z1.far z3 _ _, z2, z3, z4⟩)), pages := h.pages.far (fun e => a1 e.symm) _ _, marks := h.marks.far (fun e => a2 e.symm) _ _, bytes := fun q g hq hg => (h.bytes q g hq hg).far (a4 q g hq hg).1 _ _, noughts := h.noughts, low := h.low, apart := h.apart, alone := h.alone, few := h.few, caps := h.caps, room := h.room }
theorem cell_of_heap {w w' : World} {x : Nat} (e : w'.heap[x]? = w.heap[x]?) (j : Nat) : w'.cell? ⟨x, j, none⟩ = w.cell? ⟨x, j, none⟩ := by
  simp only [World.cell?, e]

def CopyOk (w : World) (g o N d sb so sc c cp : Nat) (V : List Value) : Prop :=
    (Builtin.copy_ #[22, 22] 3 #[.slice (some ⟨g, o, none⟩) (4096 - o) (cp - o), .slice (some ⟨sb, so + d, none⟩) (N - d) (sc - d)]).run Tryd.prog w = .ok (.int .i64 c) (w.setCells g o V)
theorem CopyOk.eq {w : World} {g o N d sb so sc c cp : Nat} {V : List Value} (h : CopyOk w g o N d sb so sc c cp V) :
    (Builtin.copy_ #[22, 22] 3 #[.slice (some ⟨g, o, none⟩) (4096 - o) (cp - o), .slice (some ⟨sb, so + d, none⟩) (N - d) (sc - d)]).run Tryd.prog w = .ok (.int .i64 c) (w.setCells g o V) := h
def MinIs (c N d o : Nat) : Prop := c = Nat.min (N - d) (4096 - o)

theorem copy_put {w : World} {B b P D : Nat} {k : Mem} (h : RamAt w B b P D k) {p g o : Nat} (hp : p < k.n) (hg : k.blk p = some g) (l : List Nat) (N d c : Nat) (hN : l.length = N) (hc : MinIs c N d o) (sb so sc cp : Nat)
    (hsrc : ∀ j v, (byteV l)[j]? = some v → w.cell? ⟨sb, so + j, none⟩ = some v) :
    CopyOk w g o N d sb so sc c cp (byteV ((l.drop d).take c)) := by
  unfold MinIs at hc
  unfold CopyOk
  have hl : (byteV ((l.drop d).take c)).length = c := by
    have : Nat.min (N - d) (4096 - o) ≤ N - d := Nat.min_le_left _ _
    simp [byteV]; omega
  have hle : c ≤ 4096 - o := by rw [hc]; exact Nat.min_le_right _ _
  have hb := h.bytes p g hp hg
  have := run_copy_cells (P := Tryd.prog) w 22 22 3 5 g o (4096 - o) (cp - o) ⟨sb, so + d, none⟩ (N - d) (sc - d) (byteV ((l.drop d).take c)) Tryd.underlying22 (by kernel_rfl) (hl.trans hc)
    (fun j v hj => by
      have hjc : j < c := by rw [← hl]; exact (List.getElem?_eq_some_iff.1 hj).1
      rw [Addr.add_lit, Nat.add_assoc]
      refine hsrc (d + j) v ?_
      rw [← hj, byteV, byteV, List.getElem?_map, List.getElem?_map, List.getElem?_take_of_lt hjc, List.getElem?_drop])
    (fun j hj => by rw [hb.cell (j := o + j) (by omega)]; rfl) (fun j hj => hb.thaw (o + j))
    (fun v hv => by
      simp only [byteV, List.mem_map] at hv
      obtain ⟨x, _, rfl⟩ := hv
      rfl)
  rw [this, hl]; rfl

set_option maxHeartbeats 600000 in
theorem write_some {w : World} {B b P D : Nat} {m : Mem} (h : RamAt w B b P D m) (hB : B ≤ w.heap.size) (a : Nat) (ha : a < 4294967296) (l : List Nat) (N : Nat) (hN : l.length = N) (hl0 : 0 < N) (hin : a + N ≤ m.n * 4096)
    (sb so sc : Nat) (hsc : N ≤ sc) (hsrc : ∀ j v, (byteV l)[j]? = some v → w.cell? ⟨sb, so + j, none⟩ = some v) (hsl : sb < w.heap.size) (hso : ¬ m.owns b P D sb) (hwr : m.wr ≤ 1000000000) :
    Calls Tryd.prog 23 #[.pointer (some ⟨b, 0, none⟩), .int .u32 a, .slice (some ⟨sb, so, none⟩) N sc] w fun e w' => e = .returned .nilIface ∧ ∃ k, Wrote m k w.heap.size a l N ∧ RamAt w' B b P D { k with wr := k.wr + 1 } ∧ Kept B w w' (m.owns b P D) := by
  have HHas := hide (has_some b P m.n a ha h.few (N : Int) (by omega) (by have := h.few; omega) w h.pagesAt)
  rw [decide_eq_true (show ((a : Int) + (N : Int) ≤ (m.n : Int) * 4096) by omega)] at HHas
  have HR := hide h
  have HN := hide hN
  have HS := hide hsrc
  have hfew := h.few
  have hne : ((N : Int) == 0) = false := by simp; omega
  have i9 : N ≤ 67108864 := by omega
  clear h hN hsrc
  have HSp : Hid (∀ d p o : Nat, d ≤ N → p = (a + d) / 4096 → o = (a + d) % 4096 → ∀ w : World, Calls Tryd.prog 37 #[.int .u32 ((a : Int) + (d : Int))] w fun e w' => e = .returned (.tuple #[.int .i64 p, .int .i64 o]) ∧ w' = w) := by
    refine hide (fun d p o hd hp ho w => ?_)
    rw [hp, ho]
    exact split_any (a + d) (by omega) w
  go_enter Tryd.func23, Tryd.ntmps23
  go_wp2_with (first | (go_at_call 35; refine HHas.out.mono ?_; rintro e w1 ⟨rfl, rfl⟩))
  go_loopw [7] (fun dv wr => ∃ d k, d ≤ N ∧ dv = .int .i64 (d : Nat) ∧ Wrote m k w1.heap.size a l d ∧ RamAt wr B b P D k ∧ Kept B w1 wr (m.owns b P D)) (fun dv _ => N - (intOf dv).toNat)
  case atStart => exact ⟨0, m, Nat.zero_le _, rfl, Wrote.start _ _ _ _, HR.out, Kept.refl _ _ _⟩
  case round =>
    obtain ⟨d, k, hd, rfl, hW, hM, hK⟩ := hrel
    have HW := hide hW
    have HM := hide hM
    have HK := hide hK
    clear hW hM hK HHas
    by_cases hlt : d < N
    · obtain ⟨p, hp⟩ : ∃ p, p = (a + d) / 4096 := ⟨_, rfl⟩
      obtain ⟨o, ho⟩ : ∃ o, o = (a + d) % 4096 := ⟨_, rfl⟩
      have HSd := hide (HSp.out d p o hd hp ho)
      have hpk : p < k.n := by rw [HW.out.n]; omega
      have hpl : p < 16384 := by omega
      have ho9 : o < 4096 := by omega
      have HT := hide (touch_ram HM.out.dr (Nat.le_trans hB HK.out.size) hpk)
      have hcp0 := (HM.out.caps p hpk).1
      have hcp9 := (HM.out.caps p hpk).2.1
      unfold maxLen at hcp9
      generalize k.cap p = cp at HT hcp0 hcp9
      have HP := hide hp
      have HO := hide ho
      clear hp ho
      go_wp2_with (first | (go_at_call 37; refine (HSd.out _).mono ?_; rintro e w2 ⟨rfl, rfl⟩))
      obtain ⟨c, hc⟩ : ∃ c, c = Nat.min (N - d) (4096 - o) := ⟨_, rfl⟩
      have hc1 : 0 < c := by rw [hc]; exact Nat.lt_min.2 ⟨by omega, by omega⟩
      have hc2 : d + c ≤ N := by have : Nat.min (N - d) (4096 - o) ≤ N - d := Nat.min_le_left _ _; omega
      have hc3 : o + c ≤ 4096 := by have : Nat.min (N - d) (4096 - o) ≤ 4096 - o := Nat.min_le_right _ _; omega
      have HC : MinIs c N d o := hc
      have HC1 := hide hc1
      have HC2 := hide hc2
      have HC3 := hide hc3
      have hc9 : c ≤ 67108864 := by omega
      clear hc hc1 hc2 hc3
      go_region_with (first | (go_at_call 38; refine HT.out.mono ?_; rintro e w3 ⟨g, rfl, hM3, hK3, hg3⟩; have HM3 := hide hM3; have HK3 := hide hK3; have HG3 := hide hg3; clear hM3 hK3 hg3) | (have hcp := copy_put HM3.out (p := p) hpk (upd_same _ _ _) l N d c HN.out HC sb so sc cp (fun j v hj => (cell_of_heap ((HK.out.dr.then HK3.out (fun x hx hy => HW.out.owns hx hy)).other sb hsl hso) _).trans (HS.out j v hj)); with_reducible rw [CopyOk.eq hcp]; clear hcp))
      all_goals
        go_simp
        go_wp2
        have hdc := HC2.out
        have hw : IntKind.i64.wrap ((d : Int) + (c : Int)) = ((d + c : Nat) : Int) := by rw [IntKind.wrap_i64]; omega
        rw [hw]
        go_roundw
        case rel =>
          refine ⟨d + c, (k.touched p g).put p o ((l.drop d).take c), HC2.out, rfl, ?_, ?_, ?_⟩
          · exact HW.out.step HP.out HO.out HC1.out HC3.out (by rw [HN.out]; exact HC2.out) (HG3.out.imp id (fun e => e.2)) HK.out.size (fun g' hg' => by
              rcases HG3.out with e | e
              · exact Option.some.inj (hg'.symm.trans e)
              · rw [e.1] at hg'; cases hg')
          · exact HM3.out.puts (p := p) hpk (upd_same _ _ _) _ (by
              have := HC3.out
              have h2 : ((l.drop d).take c).length ≤ c := List.length_take_le _ _
              exact Nat.le_trans (Nat.add_le_add_left h2 o) this)
          · refine (HK.out.dr.then HK3.out (fun x hx hy => HW.out.owns hx hy)).then (Kept.sets (own := (k.touched p g).owns b P D) (.inr (.inr (.inr ⟨p, hpk, upd_same _ _ _⟩))) (HM3.out.low.2.2.2 p g hpk (upd_same _ _ _)) _ _) (fun x hx hy => ?_)
            rcases hy with h1 | h1 | h1 | ⟨q, h1, h2⟩
            · exact .inl h1
            · exact .inr (.inl h1)
            · exact .inr (.inr (.inl h1))
            · have hq : upd k.blk p (some g) q = some x := h2
              have hsz := HK.out.size
              by_cases hqp : q = p
              · subst hqp
                rw [upd_same] at hq
                obtain rfl := Option.some.inj hq
                rcases HG3.out with e | e
                · exact HW.out.owns hx (.inr (.inr (.inr ⟨q, h1, e⟩)))
                · exact absurd (Nat.lt_of_lt_of_le hx hsz) (Nat.not_lt.2 e.2)
              · rw [upd_other _ _ hqp] at hq
                exact HW.out.owns hx (.inr (.inr (.inr ⟨q, h1, hq⟩)))
        case measure => have := HC1.out; show N - (((d + c : Nat) : Int)).toNat < N - ((d : Int)).toNat; omega
    · obtain rfl : d = N := by omega
      have hr := HM.out.head
      have hwk : k.wr ≤ 1000000000 := by rw [HW.out.wr]; exact hwr
      have HA := hide (add_any b 2 (k.wr : Nat) wr (hr.cell 2) (hr.thaw 2) (by omega) (by omega))
      clear hr
      go_wp2_with (first | (go_at_call 39; refine HA.out.mono ?_; rintro e w4 ⟨rfl, rfl⟩))
      go_ret
      exact ⟨rfl, k, HW.out, HM.out.count, HK.out.trans (Kept.set (.inl rfl) HM.out.low.1 _)⟩
end Go.Proofs.YtbggkoahofnnjaaDoor
namespace Go.Proofs.YtbggkoahofnnjaaDoor
open Go.RowKit
set_option linter.unusedVariables false
attribute [local go_sem ↓] Go.wp_at_zero Go.wp_at_succ

set_option maxHeartbeats 1000000 in
theorem look_first (b P D n dc p : Nat) (wr : Int) (nv : Value) (hp : p < n) (hn : n ≤ 16384) (w : World)
    (hr : RowAt w b (ramV P D n dc wr nv 0) 93) (cp : w.cell? ⟨P, p, none⟩ = some (.slice none 0 0)) :
    Calls Tryd.prog 67 #[.pointer (some ⟨b, 0, none⟩), .int .i64 p] w fun e w' => e = .returned (.slice (some ⟨w.heap.size + 1, 0, none⟩) 4096 4096) ∧ RowAt w' b (ramV P D n dc wr (.slice (some ⟨w.heap.size + 1, 0, none⟩) 4096 4096) 1) 93 ∧ ∃ o, Made b (w.alloc o) w' := by
  have i0 : (0 : Int) ≤ (p : Int) := by omega
  have i9 : (p : Int) < (n : Int) := by omega
  have c0 : w.cell? ⟨b, 0, none⟩ = some (.slice (some ⟨P, 0, none⟩) n n) := hr.cell 0
  have lb := lt_of_cell c0
  have lP := lt_of_cell cp
  have hq := fun w => Lib.run_eql_slice_nil (P := Tryd.prog) w 22 5 none 0 0 0 0 Tryd.underlying22
  have HD := hide (fun o h => do_first b P D n dc wr nv ⟨w.heap.size, 0, none⟩ (show ¬ b = w.heap.size by omega) (w.alloc o) (hr.al o) h)
  clear hr
  go_enter Tryd.func67, Tryd.ntmps67
  go_wp2_with (go_at_call 71; refine (HD.out _ (by simp)).mono ?_; rintro e w' ⟨rfl, hr2, hm2⟩; have c6 : w'.cell? ⟨b, 6, none⟩ = some (.slice (some ⟨w.heap.size + 1, 0, none⟩) 4096 4096) := (hr2.cell 6).trans (by simp [ramV]); have cb : w'.cell? ⟨w.heap.size, 0, none⟩ = some (.pointer (some ⟨b, 0, none⟩)) := (cell_of_heap (hm2.row w.heap.size (by omega) (by simp)) 0).trans (by simp); have HR2 := hide hr2; have HM2 := hide hm2; clear hr2 hm2)
  go_ret
  exact ⟨rfl, by have := HR2.out; simpa using this, _, HM2.out⟩

/-- What is looked at: the same memory, but that the page of noughts may be made. -/
structure Looked (m m' : Mem) : Prop where
  eq : ∃ z, m' = { m with z := z }
theorem Looked.refl (m : Mem) : Looked m m := ⟨m.z, rfl⟩
theorem Looked.n {m m' : Mem} (h : Looked m m') : m'.n = m.n := by obtain ⟨z, rfl⟩ := h.eq; rfl
theorem Looked.dat {m m' : Mem} (h : Looked m m') : m'.dat = m.dat := by obtain ⟨z, rfl⟩ := h.eq; rfl
theorem Looked.wr {m m' : Mem} (h : Looked m m') : m'.wr = m.wr := by obtain ⟨z, rfl⟩ := h.eq; rfl
theorem Looked.blk {m m' : Mem} (h : Looked m m') : m'.blk = m.blk := by obtain ⟨z, rfl⟩ := h.eq; rfl
theorem Looked.dirty {m m' : Mem} (h : Looked m m') : m'.dirty = m.dirty := by obtain ⟨z, rfl⟩ := h.eq; rfl
theorem Looked.cap {m m' : Mem} (h : Looked m m') : m'.cap = m.cap := by obtain ⟨z, rfl⟩ := h.eq; rfl
theorem Looked.trans {m m' m2 : Mem} (h : Looked m m') (k : Looked m' m2) : Looked m m2 := by
  obtain ⟨z, rfl⟩ := h.eq
  obtain ⟨y, rfl⟩ := k.eq
  exact ⟨y, rfl⟩
theorem Looked.owns {m m' : Mem} (h : Looked m m') {b P D x : Nat} : m'.owns b P D x ↔ m.owns b P D x := by
  obtain ⟨z, rfl⟩ := h.eq; exact Iff.rfl
theorem HoldsAt.of_heap {w w' : World} {b n : Nat} {t : TypeId} {f : Nat → Value} (h : HoldsAt w b n t f) (e : w'.heap[b]? = w.heap[b]?) : HoldsAt w' b n t f := by
  obtain ⟨cs, hr, hs, hf⟩ := h.row
  exact ⟨cs, e.trans hr, hs, hf⟩
theorem look_any {w : World} {B b P D : Nat} {m : Mem} (h : RamAt w B b P D m) (hB : B ≤ w.heap.size) {p : Nat} (hp : p < m.n) :
    Calls Tryd.prog 67 #[.pointer (some ⟨b, 0, none⟩), .int .i64 p] w fun e w' => ∃ g m', e = .returned (.slice (some ⟨g, 0, none⟩) 4096 (m.cap p)) ∧ Looked m m' ∧ RamAt w' B b P D m' ∧
      HoldsAt w' g 4096 5 (fun o => .int .u8 (m.dat p o : Nat)) ∧ Kept B w w' (m.owns b P D) ∧ (m'.owns b P D g ∨ m'.z = some g) ∧ (m'.z = m.z ∨ ∃ x, m'.z = some x ∧ w.heap.size ≤ x) := by
  cases hg : m.blk p with
  | some g =>
    refine (look_ram h hp hg).mono ?_
    rintro e w' ⟨rfl, hb⟩
    have hy := (h.bytes p g hp hg).bl hb
    exact ⟨g, m, rfl, Looked.refl m, h.bl hb, hy, ⟨hb.mono hB, hb.size, fun x hx _ => hb.block x hx⟩, .inl (.inr (.inr (.inr ⟨p, hp, hg⟩))), .inl rfl⟩
  | none =>
    have cp := h.pages.cell hp
    rw [hg] at cp
    have hz0 := h.noughts p hp hg
    have hc4 := (h.caps p hp).2.2 hg
    rw [hc4]
    have e0 : (fun o => Value.int .u8 ((m.dat p o : Nat) : Int)) = fun _ => Value.int .u8 0 := by funext o; rw [hz0 o]; rfl
    rw [e0]
    cases hz : m.z with
    | some g =>
      have hh := h.head
      have e1 : m.nv = .slice (some ⟨g, 0, none⟩) 4096 4096 := by unfold Mem.nv; rw [hz]; rfl
      have e2 : m.on = 1 := by unfold Mem.on; rw [hz]
      rw [e1, e2] at hh
      refine (look_again b P D m.n m.dc p g m.wr hp h.few w hh cp).mono ?_
      rintro e w' ⟨rfl, hb⟩
      have hy := (h.zero g hz).1.bl hb
      exact ⟨g, m, rfl, Looked.refl m, h.bl hb, hy, ⟨hb.mono hB, hb.size, fun x hx _ => hb.block x hx⟩, .inr hz, .inl hz⟩
    | none =>
      have hh := h.head
      have e1 : m.nv = .slice none 0 0 := by unfold Mem.nv; rw [hz]; rfl
      have e2 : m.on = 0 := by unfold Mem.on; rw [hz]
      rw [e1, e2] at hh
      refine (look_first b P D m.n m.dc p m.wr _ hp h.few w hh cp).mono ?_
      rintro e w' ⟨rfl, hr2, o, hM⟩
      obtain ⟨a1, a2, a3, a4⟩ := h.apart
      obtain ⟨l1, l2, l3, l4⟩ := h.low
      have lb := hh.lt
      have same : ∀ x, x ≠ b → x < w.heap.size → w'.heap[x]? = w.heap[x]? := fun x hx hl => (hM.row x hx (by simp; omega)).trans (Below.heap_alloc _ _ _ hl)
      have hpg : HoldsAt w' (w.heap.size + 1) 4096 5 (fun _ => .int .u8 0) := by have := hM.page; simpa using this
      have hsz : w'.heap.size = w.heap.size + 1 + 1 := by have := hM.size; simpa using this
      refine ⟨w.heap.size + 1, { m with z := some (w.heap.size + 1) }, rfl, ⟨_, rfl⟩, ?_, hpg, ?_, .inr rfl, .inr ⟨_, rfl, by omega⟩⟩
      · exact { head := hr2, zero := fun g hg' => by
                  cases hg'
                  exact ⟨hpg, by omega, by omega, by have := h.pages.lt; omega, by have := h.marks.lt; omega, fun q hq e => by have := (h.bytes q _ hq e).lt; omega⟩,
                pages := h.pages.of_heap (same P (fun e => a1 e.symm) h.pages.lt), marks := h.marks.of_heap (same D (fun e => a2 e.symm) h.marks.lt),
                bytes := fun q g hq hg' => (h.bytes q g hq hg').of_heap (same g (a4 q g hq hg').1 (h.bytes q g hq hg').lt),
                noughts := h.noughts, low := h.low, apart := h.apart, alone := h.alone, few := h.few, caps := h.caps, room := h.room }
      · exact ⟨hM.bel B w l1 ((Below.refl _ w).alloc hB o), by omega, fun x hx hn => same x (fun e => hn (.inl e)) hx⟩
end Go.Proofs.YtbggkoahofnnjaaDoor
namespace Go.Proofs.YtbggkoahofnnjaaDoor
open Go.RowKit
set_option linter.unusedVariables false
attribute [local go_sem ↓] Go.wp_at_zero Go.wp_at_succ

def pageB (m : Mem) (p o c : Nat) : List Value := (List.range c).map fun j => .int .u8 (m.dat p (o + j) : Nat)
def TakeOk (w : World) (O N d g o c cp : Nat) (V : List Value) : Prop :=
    (Builtin.copy_ #[22, 22] 3 #[.slice (some ⟨O, d, none⟩) (N - d) (N - d), .slice (some ⟨g, o, none⟩) (4096 - o) (cp - o)]).run Tryd.prog w = .ok (.int .i64 c) (w.setCells O d V)
theorem TakeOk.eq {w : World} {O N d g o c cp : Nat} {V : List Value} (h : TakeOk w O N d g o c cp V) :
    (Builtin.copy_ #[22, 22] 3 #[.slice (some ⟨O, d, none⟩) (N - d) (N - d), .slice (some ⟨g, o, none⟩) (4096 - o) (cp - o)]).run Tryd.prog w = .ok (.int .i64 c) (w.setCells O d V) := h

/-- The bytes of a stretch, d of them read. -/
def readV (m : Mem) (a d j : Nat) : Value := if j < d then .int .u8 (m.at (a + j) : Nat) else .int .u8 0

theorem readV_lt {m : Mem} {a d j : Nat} (h : j < d) : readV m a d j = .int .u8 (m.at (a + j) : Nat) := if_pos h
theorem readV_ge {m : Mem} {a d j : Nat} (h : ¬ j < d) : readV m a d j = .int .u8 0 := if_neg h
theorem read_step {w : World} {m : Mem} {O N a d p o c : Nat} (h : HoldsAt w O N 5 (readV m a d)) (hp : p = (a + d) / 4096) (ho : o = (a + d) % 4096) (hc : d + c ≤ N) (hoc : o + c ≤ 4096) :
    HoldsAt (w.setCells O d (pageB m p o c)) O N 5 (readV m a (d + c)) := by
  refine (h.puts (pageB m p o c) d (by simpa [pageB] using hc)).congr (fun j hj => ?_)
  by_cases h1 : d ≤ j
  · rw [if_pos h1]
    by_cases h2 : j < d + c
    · have e : m.at (a + j) = m.dat p (o + (j - d)) := by
        show m.dat ((a + j) / 4096) ((a + j) % 4096) = _
        rw [show (a + j) / 4096 = p by omega, show (a + j) % 4096 = o + (j - d) by omega]
      rw [readV_lt h2, e, pageB, List.getElem?_map, List.getElem?_range (by omega)]; rfl
    · rw [List.getElem?_eq_none (by simp [pageB]; omega)]
      rw [readV_ge h2, readV_ge (show ¬ j < d by omega)]; rfl
  · rw [if_neg h1, readV_lt (show j < d by omega), readV_lt (show j < d + c by omega)]

end Go.Proofs.YtbggkoahofnnjaaDoor
