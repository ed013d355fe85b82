/-
  A memory and its clone, each with the document's beside it: the loop over the clone's acts, and what lies at the end.
-/
import Derived.Test.YtficoenanfnijaaGreatDoorJMeLoop
import Derived.Test.YtficoenanfnijaaGreatDoorJMeSure
import Derived.Test.YtficoenanfnijaaGreatDoorJMeRef5
import Derived.Test.YtficoenanfnijaaGreatDoorJMeStep3
import Derived.Deep.CutRange
namespace Go.Proofs.YtficoenanfnijaaGreatDoor
open Go.RowKit
set_option linter.unusedVariables false

/-- The list of dirty pages holds just these. -/
theorem dirty_any_mem (m : Mem) (n p : Nat) (hp : p < n) : (dirtyTo m n).any (· == p) = m.dirty p := by
  cases hd : m.dirty p with
  | true =>
    rw [List.any_eq_true]
    exact ⟨p, List.mem_filter.2 ⟨List.mem_range.2 hp, hd⟩, by simp⟩
  | false =>
    rw [List.any_eq_false]
    intro q hq hqp
    have h1 := (List.mem_filter.1 hq).2
    have : q = p := by simpa using hqp
    rw [this, hd] at h1
    cases h1
theorem any_take_succ (l : List Nat) (p i : Nat) (hi : i < l.length) : (l.take (i + 1)).any (· == p) = ((l.take i).any (· == p) || ((l[i]?).getD 0 == p)) := by
  rw [List.take_add_one, List.any_append, List.getElem?_eq_getElem hi]
  simp

structure Two (w Y0 Y1 wr : World) (B b P D cc Q E n : Nat) (m m' k : Mem) (p : Nat) : Prop where
  lm : Looked m m'
  mn : m.n = n
  ms : ∀ q o, m.dat q o < 256
  rm : RamAt wr B b P D m'
  rk : RamAt wr B cc Q E k
  kn : k.n = n
  o1 : Off m' b P D k cc Q E
  o2 : Off k cc Q E m' b P D
  ks : ∀ q o, k.dat q o < 256
  kw : k.wr ≤ 15 + p
  eq : ∀ q o, o < 4096 → (q < p ∨ m.dirty q = false) → k.dat q o = m.dat q o
  ko : ∀ x, k.owns cc Q E x → x < Y0.heap.size ∨ Y1.heap.size ≤ x
  mo : ∀ x, m.owns b P D x → x < Y0.heap.size
  mid : ∀ x, Y0.heap.size ≤ x → x < Y1.heap.size → wr.heap[x]? = Y1.heap[x]?
  bel : Below B w wr
  base : B ≤ wr.heap.size
  sz : Y1.heap.size ≤ wr.heap.size
  s0 : Y0.heap.size ≤ Y1.heap.size
variable {w Y0 Y1 wr W1 : World} {B b P D cc Q E n p : Nat} {m m' k : Mem}
theorem Two.lookK {k2 : Mem} (h : Two w Y0 Y1 wr B b P D cc Q E n m m' k p) (hl : Looked k k2) (hR : RamAt W1 B cc Q E k2) (hz : k2.z = k.z ∨ ∃ x, k2.z = some x ∧ wr.heap.size ≤ x) (hK : Kept B wr W1 (k.owns cc Q E)) : Two w Y0 Y1 W1 B b P D cc Q E n m m' k2 p :=
  { lm := h.lm, mn := h.mn, ms := h.ms, rm := h.rm.other h.o2 hK, rk := hR, kn := by (rw [hl.n]; exact h.kn), o1 := h.o1.right h.rm hl hz, o2 := h.o2.left hl, ks := by (rw [hl.dat]; exact h.ks), kw := by (rw [hl.wr]; exact h.kw), eq := by (rw [hl.dat]; exact h.eq), ko := fun x hx => h.ko x (hl.owns.1 hx), mo := h.mo,
    mid := fun x h1 h2 => (hK.other x (Nat.lt_of_lt_of_le h2 h.sz) (fun h3 => (h.ko x h3).elim (fun h4 => by omega) (fun h4 => by omega))).trans (h.mid x h1 h2), bel := h.bel.trans hK.below, base := Nat.le_trans h.base hK.size, sz := Nat.le_trans h.sz hK.size, s0 := h.s0 }
theorem Two.lookM {m2 : Mem} (h : Two w Y0 Y1 wr B b P D cc Q E n m m' k p) (hl : Looked m' m2) (hR : RamAt W1 B b P D m2) (hz : m2.z = m'.z ∨ ∃ x, m2.z = some x ∧ wr.heap.size ≤ x) (hK : Kept B wr W1 (m'.owns b P D)) : Two w Y0 Y1 W1 B b P D cc Q E n m m2 k p :=
  { lm := h.lm.trans hl, mn := h.mn, ms := h.ms, rm := hR, rk := h.rk.other h.o1 hK, kn := h.kn, o1 := h.o1.left hl, o2 := h.o2.right h.rk hl hz, ks := h.ks, kw := h.kw, eq := h.eq, ko := h.ko, mo := h.mo,
    mid := fun x h1 h2 => (hK.other x (Nat.lt_of_lt_of_le h2 h.sz) (fun h3 => by have := h.mo x (h.lm.owns.1 h3); omega)).trans (h.mid x h1 h2), bel := h.bel.trans hK.below, base := Nat.le_trans h.base hK.size, sz := Nat.le_trans h.sz hK.size, s0 := h.s0 }
theorem Two.next (h : Two w Y0 Y1 wr B b P D cc Q E n m m' k p) (hd : m.dirty p = false) : Two w Y0 Y1 wr B b P D cc Q E n m m' k (p + 1) :=
  { lm := h.lm, mn := h.mn, ms := h.ms, rm := h.rm, rk := h.rk, kn := h.kn, o1 := h.o1, o2 := h.o2, ks := h.ks, kw := Nat.le_succ_of_le h.kw, eq := fun q o ho hq => h.eq q o ho (by
      rcases hq with hq | hq
      · by_cases e : q = p
        · subst e; exact .inr hd
        · exact .inl (by omega)
      · exact .inr hq), ko := h.ko, mo := h.mo, mid := h.mid, bel := h.bel, base := h.base, sz := h.sz, s0 := h.s0 }
theorem Two.set {g : Nat} {l : List Nat} (h : Two w Y0 Y1 wr B b P D cc Q E n m m' k p) (hR : RamAt W1 B cc Q E (k.setp p g l)) (hg : k.blk p = some g ∨ (k.blk p = none ∧ wr.heap.size ≤ g)) (hK : Kept B wr W1 (k.owns cc Q E)) (hl : l.length = 4096) (hs : ∀ y, y ∈ l → y < 256) (hv : ∀ o, o < 4096 → (l[o]?).getD 0 = m.dat p o) : Two w Y0 Y1 W1 B b P D cc Q E n m m' (k.setp p g l).norm (p + 1) := by
  obtain ⟨hM, hat⟩ := set_out (w := w) (W := wr) hl hs hR hg hK
  have hown : ∀ x, (k.setp p g l).norm.owns cc Q E x → k.owns cc Q E x ∨ wr.heap.size ≤ x := hM.st.own1
  have hz : (k.setp p g l).norm.z = k.z := rfl
  have hsm : ∀ x, k.at x < 256 := fun x => h.ks _ _
  exact { lm := h.lm, mn := h.mn, ms := h.ms, rm := h.rm.other h.o2 hK, rk := hR.norm, kn := h.kn,
          o1 := ⟨fun x hx hh => by
            have hlt := h.rm.owned hx
            rcases hh with h1 | h1
            · exact (hown x h1).elim (fun h2 => h.o1.no x hx (.inl h2)) (fun h2 => by omega)
            · exact h.o1.no x hx (.inr (hz ▸ h1))⟩,
          o2 := ⟨fun x hx hh => by
            rcases hown x hx with h1 | h1
            · exact h.o2.no x h1 hh
            · rcases hh with h2 | h2
              · have := h.rm.owned h2; omega
              · have := h.rm.z_lt h2; omega⟩,
          ks := Mem.norm_small (hM.st.small hsm), kw := (by show k.wr + 1 ≤ _; have := h.kw; omega),
          eq := fun q o ho hq => by
            rw [Mem.norm_dat _ q ho, Mem.dat_at _ q o ho, hat]
            unfold wroteF
            by_cases e : q = p
            · subst e
              rw [if_pos (by omega), show q * 4096 + o - 4096 * q = o by omega]
              exact hv o ho
            · rw [if_neg (by omega), ← k.dat_at q o ho]
              exact h.eq q o ho (hq.imp (fun h1 => by omega) id),
          ko := fun x hx => (hown x hx).elim (h.ko x) (fun h1 => .inr (Nat.le_trans h.sz h1)), mo := h.mo,
          mid := fun x h1 h2 => (hK.other x (Nat.lt_of_lt_of_le h2 h.sz) (fun h3 => (h.ko x h3).elim (fun h4 => by omega) (fun h4 => by omega))).trans (h.mid x h1 h2), bel := h.bel.trans hK.below, base := Nat.le_trans h.base hK.size, sz := Nat.le_trans h.sz hK.size, s0 := h.s0 }
end Go.Proofs.YtficoenanfnijaaGreatDoor
namespace Go.Proofs.YtficoenanfnijaaGreatDoor
open Go.RowKit
set_option linter.unusedVariables false
attribute [local go_sem ↓] Go.wp_at_zero Go.wp_at_succ

theorem ints_eq (v1 v2 : Value) (l : List Nat) (w : World) (h1 : IntRow w v1 l) (h2 : IntRow w v2 l) (b1 : l.length ≤ 16384) :
    Calls Tryz.prog 17 #[v1, v2] w fun e w' => e = .returned (.bool true) ∧ Below w.heap.size w w' := by
  obtain ⟨s1, c1, rfl, d1, d2, e1⟩ := h1
  obtain ⟨s2, c2, rfl, d3, d4, e2⟩ := h2
  by_cases h0 : l.length = 0
  · rw [h0]
    go_enter Tryz.func17, Tryz.ntmps17
    go_wp2
    go_loopw [5] (fun kv wr => Below w.heap.size w wr ∧ kv = .int .i64 0) (fun _ _ => 0)
    case atStart => exact ⟨Below.refl _ _, rfl⟩
    case round =>
      obtain ⟨hB, rfl⟩ := hrel
      go_wp2
      go_ret
      exact ⟨rfl, hB⟩
  · obtain ⟨g1, rfl, k1⟩ := e1.resolve_left h0
    obtain ⟨g2, rfl, k2⟩ := e2.resolve_left h0
    exact ints_same g1 g2 l.length c1 c2 (by omega) d1 d3 (fun j => (l[j]?).getD 0) w k1 k2
set_option maxRecDepth 100000 in
set_option maxHeartbeats 2000000 in
theorem rtwin_any {w : World} {N n : Nat} {f : Nat → Nat} {r : RP} (h : RefAt w N n f r) :
    Calls Tryz.prog 18 #[.agg (r.v N n)] w fun e w' => (∃ r' : RP, e = .returned (.agg (r'.v N n)) ∧ RefAt w' N n f r' ∧ ∀ x, r'.owns x → w.heap.size ≤ x) ∧ Below w.heap.size w w' := by
  have hN9 : N ≤ 67108864 := by have := h.few; omega
  have hN0 : 0 < N := by have := h.few; omega
  have hn0 := h.few.1
  have hn9 := h.few.2.1
  obtain ⟨d, hd⟩ := h.marks
  have HRef := hide h
  have HMk := hide hd
  clear h hd
  go_enter Tryz.func18, Tryz.ntmps18
  go_upto_region 3 with (first | ((with_reducible refine bx_R w.heap.size r N n ?_ ?_ ?_); exact rfl; exact rfl; intro W hr hb hz0) | ((with_reducible refine al_R (w.heap.size + 1) ?_ ?_); exact hz0.out; intro W hq hb' hz'; replace hr := hr.bl (hz0.out ▸ hb'); replace hb := hb.trans (hb'.mono (by omega)); replace hz0 := hz'; have fB : W.cell? ⟨w.heap.size, 0, none⟩ = some (.slice (some ⟨r.gB, 0, none⟩) N r.cB) := hr.cell 0; have fD : W.cell? ⟨w.heap.size, 1, none⟩ = some (.slice (some ⟨r.gD, 0, none⟩) n r.cD) := hr.cell 1))
  clear fB fD
  obtain ⟨X, hX⟩ : ∃ X, W.drew = X := ⟨_, rfl⟩
  have eX : X.heap.size = W.heap.size := by rw [← hX]; rfl
  have bX : Below W.heap.size W X := by rw [← hX]; exact (Below.refl _ W).drew
  have hbs := hb.size
  have HQ1 : Hid (w.heap.size + 1 < W.heap.size) := hide hq.lt
  have srcB : ∀ V, Below W.heap.size W V → ∀ (j : Nat) (u : Value), (rowB f 0 N)[j]? = some u → V.cell? ((⟨r.gB, 0, none⟩ : Addr).add j) = some u := fun V hV => rowB_src ((HRef.out.bl (hb.trans (hV.mono hbs))).bytes) 0 (.inl rfl) (by omega)
  have srcD : ∀ V, Below W.heap.size W V → ∀ (j : Nat) (u : Value), (boolV ((List.range n).map d))[j]? = some u → V.cell? ((⟨r.gD, 0, none⟩ : Addr).add j) = some u := fun V hV j u hj => by
    have hjn : j < n := by have := (List.getElem?_eq_some_iff.1 hj).1; simpa [boolV] using this
    rw [Addr.add_lit, Nat.zero_add, (HMk.out.bl (hb.trans (hV.mono hbs))).cell hjn, ← hj, boolV_at (by simpa using hjn), List.getElem?_map, List.getElem?_range hjn]
    rfl
  have lenD : (boolV ((List.range n).map d)).length = n := by simp [boolV]
  have atB : ∀ j, j < N → (rowB f 0 N)[j]? = some (.int .u8 (f j : Nat)) := fun j hj => by rw [rowB_at hj, Nat.zero_add]
  have atD : ∀ j, j < n → (boolV ((List.range n).map d))[j]? = some (.bool (d j)) := fun j hj => by rw [boolV_at (by simpa using hj), List.getElem?_map, List.getElem?_range hj]; rfl
  obtain ⟨v1, G1, A1, O1, B1⟩ := app_bytes X W.heap.size (.slice none 0 0) 0 [] (World.ownsRow_nil _ _ _ _) ⟨r.gB, 0, none⟩ N r.cB (rowB f 0 N) (rowB_len _ _ _) (srcB X bX) (byteV_one _) (by omega) (by omega)
  have b1 : Below W.heap.size X G1 := grown_below B1 (by omega) (fun k e => by cases e)
  have bW1 : Below W.heap.size W G1 := bX.trans b1
  rw [Nat.zero_add, List.nil_append] at O1
  obtain ⟨v2, G2, A2, O2, B2⟩ := app_bools G1 G1.heap.size (.slice none 0 0) 0 [] (World.ownsRow_nil _ _ _ _) ⟨r.gD, 0, none⟩ n r.cD (boolV ((List.range n).map d)) lenD (srcD G1 bW1) (boolV_one _) (by omega) (Nat.le_refl _)
  have b2 : Below G1.heap.size G1 G2 := grown_below B2 (Nat.le_refl _) (fun k e => by cases e)
  have bW2 : Below W.heap.size W G2 := bW1.trans (b2.mono bW1.size)
  rw [Nat.zero_add, List.nil_append] at O2
  obtain ⟨g1, c1, rfl, hH1, hg1, hc1, hc1'⟩ := holds_of_own O1 hN0 atB
  obtain ⟨g2, c2, rfl, hH2, hg2, hc2, hc2'⟩ := holds_of_own O2 hn0 atD
  obtain ⟨u1, H1, A3, O3, B3⟩ := app_bools X W.heap.size (.slice none 0 0) 0 [] (World.ownsRow_nil _ _ _ _) ⟨r.gD, 0, none⟩ n r.cD (boolV ((List.range n).map d)) lenD (srcD X bX) (boolV_one _) (by omega) (by omega)
  have b3 : Below W.heap.size X H1 := grown_below B3 (by omega) (fun k e => by cases e)
  have bW3 : Below W.heap.size W H1 := bX.trans b3
  rw [Nat.zero_add, List.nil_append] at O3
  obtain ⟨u2, H2, A4, O4, B4⟩ := app_bytes H1 H1.heap.size (.slice none 0 0) 0 [] (World.ownsRow_nil _ _ _ _) ⟨r.gB, 0, none⟩ N r.cB (rowB f 0 N) (rowB_len _ _ _) (srcB H1 bW3) (byteV_one _) (by omega) (Nat.le_refl _)
  have b4 : Below H1.heap.size H1 H2 := grown_below B4 (Nat.le_refl _) (fun k e => by cases e)
  have bW4 : Below W.heap.size W H2 := bW3.trans (b4.mono bW3.size)
  rw [Nat.zero_add, List.nil_append] at O4
  obtain ⟨g3, c3, rfl, hH3, hg3, hc3, hc3'⟩ := holds_of_own O3 hn0 atD
  obtain ⟨g4, c4, rfl, hH4, hg4, hc4, hc4'⟩ := holds_of_own O4 hN0 atB
  have HA1 := hide A1
  have HA2 := hide A2
  have HA3 := hide A3
  have HA4 := hide A4
  have hs1 := bW1.size
  have hs3 := bW3.size
  have HR12 : Hid (RefAt G2 N n f ⟨g1, c1, g2, c2, r.wr⟩) := hide ⟨hH1.bl b2, ⟨d, hH2⟩, HRef.out.small, ⟨hc1, hc1'⟩, ⟨hc2, hc2'⟩, HRef.out.few⟩
  have HR34 : Hid (RefAt H2 N n f ⟨g4, c4, g3, c3, r.wr⟩) := hide ⟨hH4, ⟨d, hH3.bl b4⟩, HRef.out.small, ⟨hc4, hc4'⟩, ⟨hc3, hc3'⟩, HRef.out.few⟩
  have HO12 : Hid (W.heap.size ≤ g1 ∧ W.heap.size ≤ g2) := hide ⟨hg1, Nat.le_trans hs1 hg2⟩
  have HO34 : Hid (W.heap.size ≤ g4 ∧ W.heap.size ≤ g3) := hide ⟨Nat.le_trans hs3 hg4, hg3⟩
  have HB12 := hide (hb.trans (bW2.mono hbs))
  have HB34 := hide (hb.trans (bW4.mono hbs))
  have HQ12 := hide (hq.bl bW2)
  have HQ34 := hide (hq.bl bW4)
  have k0 : W.cell? ⟨w.heap.size, 0, none⟩ = some (.slice (some ⟨r.gB, 0, none⟩) N r.cB) := hr.cell 0
  have k1 : W.cell? ⟨w.heap.size, 1, none⟩ = some (.slice (some ⟨r.gD, 0, none⟩) n r.cD) := hr.cell 1
  have k2 : W.cell? ⟨w.heap.size, 2, none⟩ = some (.int .i64 r.wr) := hr.cell 2
  have l0 : G1.cell? ⟨w.heap.size, 0, none⟩ = some (.slice (some ⟨r.gB, 0, none⟩) N r.cB) := (hr.bl bW1).cell 0
  have l1 : G1.cell? ⟨w.heap.size, 1, none⟩ = some (.slice (some ⟨r.gD, 0, none⟩) n r.cD) := (hr.bl bW1).cell 1
  have l2 : G1.cell? ⟨w.heap.size, 2, none⟩ = some (.int .i64 r.wr) := (hr.bl bW1).cell 2
  have m0 : G2.cell? ⟨w.heap.size, 0, none⟩ = some (.slice (some ⟨r.gB, 0, none⟩) N r.cB) := (hr.bl bW2).cell 0
  have m1 : G2.cell? ⟨w.heap.size, 1, none⟩ = some (.slice (some ⟨r.gD, 0, none⟩) n r.cD) := (hr.bl bW2).cell 1
  have m2 : G2.cell? ⟨w.heap.size, 2, none⟩ = some (.int .i64 r.wr) := (hr.bl bW2).cell 2
  have o0 : H1.cell? ⟨w.heap.size, 0, none⟩ = some (.slice (some ⟨r.gB, 0, none⟩) N r.cB) := (hr.bl bW3).cell 0
  have o1 : H1.cell? ⟨w.heap.size, 1, none⟩ = some (.slice (some ⟨r.gD, 0, none⟩) n r.cD) := (hr.bl bW3).cell 1
  have o2 : H1.cell? ⟨w.heap.size, 2, none⟩ = some (.int .i64 r.wr) := (hr.bl bW3).cell 2
  have p0 : H2.cell? ⟨w.heap.size, 0, none⟩ = some (.slice (some ⟨r.gB, 0, none⟩) N r.cB) := (hr.bl bW4).cell 0
  have p1 : H2.cell? ⟨w.heap.size, 1, none⟩ = some (.slice (some ⟨r.gD, 0, none⟩) n r.cD) := (hr.bl bW4).cell 1
  have p2 : H2.cell? ⟨w.heap.size, 2, none⟩ = some (.int .i64 r.wr) := (hr.bl bW4).cell 2
  have s0 : G2.cell? ⟨w.heap.size + 1, 0, none⟩ = some (.slice none 0 0) := (hq.bl bW2).cell 0
  have sf0 := (hq.bl bW2).thaw 0
  have s1 : G2.cell? ⟨w.heap.size + 1, 1, none⟩ = some (.slice none 0 0) := (hq.bl bW2).cell 1
  have sf1 := (hq.bl bW2).thaw 1
  have s2 : G2.cell? ⟨w.heap.size + 1, 2, none⟩ = some (.int .i64 0) := (hq.bl bW2).cell 2
  have sf2 := (hq.bl bW2).thaw 2
  have t0 : H2.cell? ⟨w.heap.size + 1, 0, none⟩ = some (.slice none 0 0) := (hq.bl bW4).cell 0
  have tf0 := (hq.bl bW4).thaw 0
  have t1 : H2.cell? ⟨w.heap.size + 1, 1, none⟩ = some (.slice none 0 0) := (hq.bl bW4).cell 1
  have tf1 := (hq.bl bW4).thaw 1
  have t2 : H2.cell? ⟨w.heap.size + 1, 2, none⟩ = some (.int .i64 0) := (hq.bl bW4).cell 2
  have tf2 := (hq.bl bW4).thaw 2
  clear A1 A2 A3 A4 O1 O2 O3 O4 B1 B2 B3 B4 b1 b2 b3 b4 hH1 hH2 hH3 hH4 srcB srcD atB atD lenD
  subst hX
  clear bX bW1 bW2 bW3 bW4 hr hq
  go_region_law (first | ((with_reducible refine step_app ?_ 28 (.tmp 5) (.tmp 7) ?_ ?_ (.slice none 0 0) (.slice (some ⟨r.gB, 0, none⟩) N r.cB) ?_ ?_ (.slice (some ⟨g1, 0, none⟩) N c1) G1 ?_ ?_); exact rfl; exact rfl; exact rfl; exact rfl; exact rfl; (with_reducible exact HA1.out)) | ((with_reducible refine step_app ?_ 29 (.tmp 9) (.tmp 11) ?_ ?_ (.slice none 0 0) (.slice (some ⟨r.gD, 0, none⟩) n r.cD) ?_ ?_ (.slice (some ⟨g2, 0, none⟩) n c2) G2 ?_ ?_); exact rfl; exact rfl; exact rfl; exact rfl; exact rfl; (with_reducible exact HA2.out)) | ((with_reducible refine step_app ?_ 29 (.tmp 9) (.tmp 11) ?_ ?_ (.slice none 0 0) (.slice (some ⟨r.gD, 0, none⟩) n r.cD) ?_ ?_ (.slice (some ⟨g3, 0, none⟩) n c3) H1 ?_ ?_); exact rfl; exact rfl; exact rfl; exact rfl; exact rfl; (with_reducible exact HA3.out)) | ((with_reducible refine step_app ?_ 28 (.tmp 5) (.tmp 7) ?_ ?_ (.slice none 0 0) (.slice (some ⟨r.gB, 0, none⟩) N r.cB) ?_ ?_ (.slice (some ⟨g4, 0, none⟩) N c4) H2 ?_ ?_); exact rfl; exact rfl; exact rfl; exact rfl; exact rfl; (with_reducible exact HA4.out)))
  all_goals
    go_simp
    go_wp2
    have hqs := HQ1.out
    have ho1 := HO12.out
    have ho3 := HO34.out
    first
      | (have hon := only_setCells (w.heap.size + 1) 0 [.slice (some ⟨g1, 0, none⟩) N c1, .slice (some ⟨g2, 0, none⟩) n c2, .int .i64 r.wr] G2
         have hrw : RowAt _ (w.heap.size + 1) ((⟨g1, c1, g2, c2, r.wr⟩ : RP).v N n) 31 := RowAt.puts [.slice (some ⟨g1, 0, none⟩) N c1, .slice (some ⟨g2, 0, none⟩) n c2, .int .i64 r.wr] 0 HQ12.out
         refine bodyPost_ret (results_cell_row Tryz.results18 _ _ (w.heap.size + 1) _ _ _ _ rfl hrw Tryz.underlying31 rfl size_R) rfl ?_
         exact ⟨⟨⟨g1, c1, g2, c2, r.wr⟩, rfl, HR12.out.same (fun x hx => hon.row x (RP.ne hx (by (show g1 ≠ _; omega)) (by (show g2 ≠ _; omega)))), fun x hx => by (rcases hx with rfl | rfl <;> (show w.heap.size ≤ _) <;> omega)⟩, hon.bel _ _ (by omega) HB12.out⟩)
      | (have hon := only_setCells (w.heap.size + 1) 0 [.slice (some ⟨g4, 0, none⟩) N c4, .slice (some ⟨g3, 0, none⟩) n c3, .int .i64 r.wr] H2
         have hrw : RowAt _ (w.heap.size + 1) ((⟨g4, c4, g3, c3, r.wr⟩ : RP).v N n) 31 := RowAt.puts [.slice (some ⟨g4, 0, none⟩) N c4, .slice (some ⟨g3, 0, none⟩) n c3, .int .i64 r.wr] 0 HQ34.out
         refine bodyPost_ret (results_cell_row Tryz.results18 _ _ (w.heap.size + 1) _ _ _ _ rfl hrw Tryz.underlying31 rfl size_R) rfl ?_
         exact ⟨⟨⟨g4, c4, g3, c3, r.wr⟩, rfl, HR34.out.same (fun x hx => hon.row x (RP.ne hx (by (show g4 ≠ _; omega)) (by (show g3 ≠ _; omega)))), fun x hx => by (rcases hx with rfl | rfl <;> (show w.heap.size ≤ _) <;> omega)⟩, hon.bel _ _ (by omega) HB34.out⟩)
end Go.Proofs.YtficoenanfnijaaGreatDoor
namespace Go.Proofs.YtficoenanfnijaaGreatDoor
open Go.RowKit
set_option linter.unusedVariables false

theorem LoopIn.more {w w1 wr : World} {B b P D N n c cnt cnt' : Nat} {Z Z' : Nat → Prop} {m : Mem} {r : RP} (h : LoopIn w w1 wr B b P D N n c Z Z' m r cnt) (hc : cnt ≤ cnt') : LoopIn w w1 wr B b P D N n c Z Z' m r cnt' :=
  { ram := h.ram, ref := h.ref, base := h.base, off := h.off, small := h.small, row := h.row, offm := h.offm, offr := h.offr, low := h.low, bel := h.bel, hand := h.hand, glow := h.glow, same := h.same, count := Nat.le_trans h.count hc, stat := h.stat, stat' := h.stat' }
theorem loop_start {w W1 W2 W3 W4 : World} {b P D N n c : Nat} {r : RP} (h1 : RamAt W1 w.heap.size b P D (Mem.fresh n)) (hb1 : Below w.heap.size w W1) (h2 : RefAt W2 N n (fun _ => 0) r) (hb2 : Below W1.heap.size W1 W2) (ho : ∀ x, r.owns x → W1.heap.size ≤ x) (hc : W2.heap.size = c)
    (hb3 : Below W2.heap.size W2 W3) (hon : Only c W3 W4) (hrow : RowAt W4 c (r.v N n) 31) (hH : HandleAt w) : LoopIn w W4 W4 w.heap.size b P D N n c (fun _ => False) (fun _ => False) (Mem.fresh n) r 0 := by
  have hs1 := hb1.size
  have hs2 := hb2.size
  have hs3 := hb3.size
  have hlt : ∀ x, ((Mem.fresh n).owns b P D x ∨ (Mem.fresh n).z = some x) → x < W1.heap.size := fun x hx => hx.elim (fun h => h1.owned h) (fun h => h1.z_lt h)
  have hG : 0 < w.heap.size := lt_of_cell hH
  exact { ram := ((h1.bl hb2).bl hb3).same (fun x hx => hon.row x (by have := hlt x hx; omega)), ref := (h2.bl hb3).same (fun x hx => hon.row x (by have := h2.lt hx; omega)),
          base := by (rw [hon.size]; omega), off := fun x hx hh => by (have := hlt x hh; have := ho x hx; omega), small := fun p j => (by show (0 : Nat) < 256; omega), row := hrow, offm := fun hh => by (have := hlt c hh; omega), offr := fun hh => by (have := h2.lt hh; omega),
          low := by omega, bel := hon.bel _ _ (by omega) ((hb1.trans (hb2.mono hs1)).trans (hb3.mono (by omega))), hand := hH, glow := hG, same := rfl, count := Nat.le_refl _, stat := fun x hx => hx.elim, stat' := fun x hx => hx.elim }
theorem RamAt.dat_of {w : World} {B b P D : Nat} {m : Mem} (h : RamAt w B b P D m) (d : Nat → Nat → Nat) (hd : ∀ p o, p < m.n → d p o = m.dat p o) : RamAt w B b P D { m with dat := d } :=
  { head := h.head, zero := h.zero, pages := h.pages, marks := h.marks, bytes := fun p g hp hg => (h.bytes p g hp hg).congr (fun o ho => by rw [← hd p o hp]), noughts := fun p hp hn o => (hd p o hp).trans (h.noughts p hp hn o),
    low := h.low, apart := h.apart, alone := h.alone, few := h.few, caps := h.caps, room := h.room }
/-- What the clone's loop leaves alone. -/
def ZA (m : Mem) (b P D : Nat) (r : RP) (c x : Nat) : Prop := m.owns b P D x ∨ m.z = some x ∨ r.owns x ∨ x = c
theorem alone_start {w W4 X5 X6 X7 X8 : World} {B b P D cc Q E N n c c2 : Nat} {m k : Mem} {r s : RP} (hL : LoopIn w W4 X5 B b P D N n c (fun _ => False) (fun _ => False) m r 12) (hK : RamAt X5 B cc Q E k) (kd : k.dat = m.dat) (kn : k.n = m.n) (kz : k.z = none) (kw : k.wr = m.wr)
    (hKo : ∀ x, k.owns cc Q E x → ¬ ZA m b P D r c x) (hs : RefAt X6 N n m.at s) (hso : ∀ x, s.owns x → X5.heap.size ≤ x) (hb6 : Below X5.heap.size X5 X6) (hc2 : X6.heap.size = c2) (hb7 : Below X6.heap.size X6 X7) (hon : Only c2 X7 X8) (hrow : RowAt X8 c2 (s.v N n) 31) :
    LoopIn w X8 X8 B cc Q E N n c2 (ZA m b P D r c) (fun x => m.owns b P D x) k s 12 ∧ LoopIn w W4 X8 B b P D N n c (fun _ => False) (fun _ => False) m r 12 := by
  have h56 := hb6.size
  have h67 := hb7.size
  have hb57 : Below X5.heap.size X5 X7 := hb6.trans (hb7.mono h56)
  have hne : ∀ x, x < X5.heap.size → X8.heap[x]? = X5.heap[x]? := fun x hx => (hon.row x (by omega)).trans (hb57.block x hx)
  have hsz : X7.heap.size = X8.heap.size := hon.size.symm
  have hat : k.at = m.at := by funext x; show k.dat _ _ = m.dat _ _; rw [kd]
  have hbel : Below B w X8 := hon.bel _ _ (by have := hL.base; omega) (hL.bel.trans (hb57.mono hL.base))
  have hkz : ∀ x, k.z ≠ some x := fun x h => by rw [kz] at h; cases h
  have hklt : ∀ x, k.owns cc Q E x → x < X5.heap.size := fun x hx => hK.owned hx
  have hZ : ∀ x, ZA m b P D r c x → x < X5.heap.size := fun x hx => by
    rcases hx with h | h | h | h
    · exact hL.ram.owned h
    · exact hL.ram.z_lt h
    · exact hL.ref.lt h
    · rw [h]; exact hL.row.lt
  refine ⟨{ ram := hK.same (fun x hx => hne x (hx.elim (hklt x) (fun h => absurd h (hkz x)))), ref := by (rw [hat]; exact (hs.bl hb7).same (fun x hx => hon.row x (by have := hs.lt hx; omega))), base := by (have := hL.base; omega),
            off := fun x hx hh => hh.elim (fun h => by have := hklt x h; have := hso x hx; omega) (hkz x), small := by (rw [kd]; exact hL.small), row := hrow, offm := fun hh => hh.elim (fun h => by have := hklt c2 h; omega) (hkz c2), offr := fun h => by (have := hs.lt h; omega),
            low := by (have := hL.base; omega), bel := hbel, hand := hL.hand, glow := hL.glow, same := kn.trans hL.same, count := by (rw [kw]; exact hL.count),
            stat := fun x hx => ⟨by (have := hZ x hx; omega), fun h => hKo x h hx, by (have := hZ x hx; omega), rfl⟩, stat' := fun x hx => ⟨.inl hx, hkz x⟩ }, ?_⟩
  exact { ram := hL.ram.same (fun x hx => hne x (hx.elim (fun h => hL.ram.owned h) (fun h => hL.ram.z_lt h))), ref := hL.ref.same (fun x hx => hne x (hL.ref.lt hx)), base := by (have := hL.base; omega), off := hL.off, small := hL.small, row := (hne c hL.row.lt).trans hL.row, offm := hL.offm, offr := hL.offr, low := hL.low,
          bel := hbel, hand := hL.hand, glow := hL.glow, same := hL.same, count := hL.count, stat := fun x hx => hx.elim, stat' := fun x hx => hx.elim }
/-- What lies at the end. -/
structure Fin (w Y : World) (B b P D cc Q E N n c c2 ga gb : Nat) (m m1 k k1 : Mem) (r s : RP) : Prop where
  lm : Looked m m1
  lk : Looked k k1
  rm : RamAt Y B b P D m1
  rk : RamAt Y B cc Q E k1
  nn : k1.n = m1.n
  mn : m.n = n
  o1 : Off m1 b P D k1 cc Q E
  o2 : Off k1 cc Q E m1 b P D
  ms : ∀ p o, m.dat p o < 256
  ks : ∀ p o, k.dat p o < 256
  ha : HoldsAt Y ga N 5 (readV m 0 N)
  hb : HoldsAt Y gb N 5 (readV k 0 N)
  hr : RefAt Y N n m.at r
  hs : RefAt Y N n k.at s
  rc : RowAt Y c (r.v N n) 31
  rc2 : RowAt Y c2 (s.v N n) 31
  na : ∀ x, x = ga ∨ x = gb ∨ x = r.gB ∨ x = s.gB ∨ x = c ∨ x = c2 → ¬ (m1.owns b P D x ∨ k1.owns cc Q E x)
  base : B ≤ Y.heap.size
  bel : Below B w Y
/-- The memory, the clone and both documents where the clone's loop ends. -/
structure Eve (w Y : World) (B b P D cc Q E N n c c2 : Nat) (m k : Mem) (r s : RP) : Prop where
  rm : RamAt Y B b P D m
  rk : RamAt Y B cc Q E k
  nn : k.n = m.n
  mn : m.n = n
  o1 : Off m b P D k cc Q E
  o2 : Off k cc Q E m b P D
  ms : ∀ p o, m.dat p o < 256
  ks : ∀ p o, k.dat p o < 256
  hr : RefAt Y N n m.at r
  hs : RefAt Y N n k.at s
  rc : RowAt Y c (r.v N n) 31
  rc2 : RowAt Y c2 (s.v N n) 31
  na : ∀ x, x = r.gB ∨ x = r.gD ∨ x = s.gB ∨ x = s.gD ∨ x = c ∨ x = c2 → ¬ (m.owns b P D x ∨ k.owns cc Q E x)
  base : B ≤ Y.heap.size
  bel : Below B w Y
theorem eve_of {w W4 X8 Y : World} {B b P D cc Q E N n c c2 S0 : Nat} {m k : Mem} {r s : RP} (hm : LoopIn w W4 X8 B b P D N n c (fun _ => False) (fun _ => False) m r 12) (hL : LoopIn w X8 Y B cc Q E N n c2 (ZA m b P D r c) (fun x => m.owns b P D x) k s 24) (hS : ∀ x, s.owns x → S0 ≤ x) (hc : S0 ≤ c2) (hmS : ∀ x, m.owns b P D x → x < S0) : Eve w Y B b P D cc Q E N n c c2 m k r s :=
  { rm := hm.ram.same (fun x hx => (hL.stat x (hx.elim .inl (fun h => .inr (.inl h)))).2.2.2), rk := hL.ram, nn := hL.same.trans hm.same.symm, mn := hm.same,
    o1 := ⟨fun x hx hh => hh.elim (fun h => (hL.stat x (.inl hx)).2.1 h) (fun h => (hL.stat' x hx).2 h)⟩, o2 := ⟨fun x hx hh => hh.elim (fun h => (hL.stat x (.inl h)).2.1 hx) (fun h => (hL.stat x (.inr (.inl h))).2.1 hx)⟩,
    ms := hm.small, ks := hL.small, hr := hm.ref.same (fun x hx => (hL.stat x (.inr (.inr (.inl hx)))).2.2.2), hs := hL.ref, rc := (hL.stat c (.inr (.inr (.inr rfl)))).2.2.2.trans hm.row, rc2 := hL.row,
    na := fun x hx hh => by
      have hr : ∀ x, r.owns x → ¬ (m.owns b P D x ∨ k.owns cc Q E x) := fun x hx hh => hh.elim (fun h => hm.off x hx (.inl h)) (fun h => (hL.stat x (.inr (.inr (.inl hx)))).2.1 h)
      have hs : ∀ x, s.owns x → ¬ (m.owns b P D x ∨ k.owns cc Q E x) := fun x hx hh => hh.elim (fun h => by have := hmS x h; have := hS x hx; omega) (fun h => hL.off x hx (.inl h))
      rcases hx with e | e | e | e | e | e
      · exact hr x (.inl e) hh
      · exact hr x (.inr e) hh
      · exact hs x (.inl e) hh
      · exact hs x (.inr e) hh
      · subst e; exact hh.elim (fun h => hm.offm (.inl h)) (fun h => (hL.stat x (.inr (.inr (.inr rfl)))).2.1 h)
      · subst e; exact hh.elim (fun h => by have := hmS x h; omega) (fun h => hL.offm (.inl h)),
    base := hL.base, bel := hL.bel }
theorem fin_of {w Y Y1 Y2 : World} {B b P D cc Q E N n c c2 : Nat} {m m1 k k1 : Mem} {r s : RP} (h : Eve w Y B b P D cc Q E N n c c2 m k r s) (hl : Looked m m1) (hR : RamAt Y1 B b P D m1) (hz : m1.z = m.z ∨ ∃ x, m1.z = some x ∧ Y.heap.size ≤ x) (hK : Kept B Y Y1 (m.owns b P D)) (hA : HoldsAt Y1 Y.heap.size N 5 (readV m 0 N))
    (hl2 : Looked k k1) (hR2 : RamAt Y2 B cc Q E k1) (hz2 : k1.z = k.z ∨ ∃ x, k1.z = some x ∧ Y1.heap.size ≤ x) (hK2 : Kept B Y1 Y2 (k.owns cc Q E)) (hA2 : HoldsAt Y2 Y1.heap.size N 5 (readV k 0 N)) :
    Fin w Y2 B b P D cc Q E N n c c2 Y.heap.size Y1.heap.size m m1 k k1 r s := by
  have hks : ∀ x, k.owns cc Q E x → x < Y.heap.size := fun x hx => h.rk.owned hx
  have hms : ∀ x, m.owns b P D x → x < Y.heap.size := fun x hx => h.rm.owned hx
  have s1 := hK.size
  have hrk1 : RamAt Y1 B cc Q E k := h.rk.other h.o1 hK
  have o2 : Off k cc Q E m1 b P D := h.o2.right h.rk hl hz
  have o1 : Off m1 b P D k cc Q E := h.o1.left hl
  have hrm2 : RamAt Y2 B b P D m1 := hR.other o2 hK2
  have mv : ∀ x, x < Y.heap.size → ¬ (m.owns b P D x ∨ k.owns cc Q E x) → Y2.heap[x]? = Y.heap[x]? := fun x hx hn => (hK2.other x (by omega) (fun h1 => hn (.inr h1))).trans (hK.other x hx (fun h1 => hn (.inl h1)))
  exact { lm := hl, lk := hl2, rm := hrm2, rk := hR2, nn := by (rw [hl2.n, hl.n]; exact h.nn), mn := h.mn, o1 := o1.right hR hl2 hz2, o2 := o2.left hl2, ms := h.ms, ks := h.ks,
          ha := hK2.holds hA (fun h1 => by have := hks _ h1; omega), hb := hA2,
          hr := h.hr.same (fun x hx => mv x (h.hr.lt hx) (h.na x (hx.elim .inl (fun e => .inr (.inl e))))), hs := h.hs.same (fun x hx => mv x (h.hs.lt hx) (h.na x (hx.elim (fun e => .inr (.inr (.inl e))) (fun e => .inr (.inr (.inr (.inl e))))))),
          rc := (mv c h.rc.lt (h.na c (.inr (.inr (.inr (.inr (.inl rfl))))))).trans h.rc, rc2 := (mv c2 h.rc2.lt (h.na c2 (.inr (.inr (.inr (.inr (.inr rfl))))))).trans h.rc2,
          na := fun x hx hh => by
            have hh' : m.owns b P D x ∨ k.owns cc Q E x := hh.imp (fun h1 => hl.owns.1 h1) (fun h1 => hl2.owns.1 h1)
            rcases hx with e | e | e | e | e | e
            · subst e; exact hh'.elim (fun h1 => by have := hms _ h1; omega) (fun h1 => by have := hks _ h1; omega)
            · subst e; exact hh'.elim (fun h1 => by have := hms _ h1; omega) (fun h1 => by have := hks _ h1; omega)
            · exact h.na x (.inl e) hh'
            · exact h.na x (.inr (.inr (.inl e))) hh'
            · exact h.na x (.inr (.inr (.inr (.inr (.inl e))))) hh'
            · exact h.na x (.inr (.inr (.inr (.inr (.inr e))))) hh',
          base := by (have := h.base; have := hK2.size; omega), bel := (h.bel.trans hK.below).trans hK2.below }
/-- Two texts are the same just where the bytes are. -/
theorem txt_eq {f g : Nat → Nat} (hf : ∀ x, f x < 256) (hg : ∀ x, g x < 256) (N : Nat) : txt f 0 N = txt g 0 N ↔ ∀ x, x < N → f x = g x := by
  unfold txt
  constructor
  · intro h x hx
    have h1 : ((List.range N).map fun i => UInt8.ofNat (f (0 + i))) = ((List.range N).map fun i => UInt8.ofNat (g (0 + i))) := by
      have := congrArg ByteArray.data h
      simpa using this
    have h2 : ((List.range N).map fun i => UInt8.ofNat (f (0 + i)))[x]? = ((List.range N).map fun i => UInt8.ofNat (g (0 + i)))[x]? := by rw [h1]
    rw [List.getElem?_map, List.getElem?_map, List.getElem?_range hx] at h2
    have h3 := congrArg UInt8.toNat (Option.some.inj h2)
    rw [UInt8.toNat_ofNat', UInt8.toNat_ofNat', Nat.mod_eq_of_lt (hf _), Nat.mod_eq_of_lt (hg _), Nat.zero_add] at h3
    exact h3
  · intro h
    congr 2
    apply List.map_congr_left
    intro j hj
    rw [Nat.zero_add, h j (List.mem_range.1 hj)]
end Go.Proofs.YtficoenanfnijaaGreatDoor
