/-
  BusOrder, walked.
-/
import Derived.Test.YtcjfjkkkepjpmaaDoorBuOrd
import Derived.Deep.RegionHeld3
import Derived.BigQuiet
namespace Go.Proofs.YtcjfjkkkepjpmaaDoor
open Go.RowKit
set_option linter.unusedVariables false

/-- Posts that came in; marks that came in. -/
def ArgAt (a : Option Addr) (N : Nat) (f : Nat → Pst) (w : World) : Prop := ∀ j, j < N → (f j).Ok ∧ ∃ b o, a = some ⟨b, o, none⟩ ∧ b < w.heap.size ∧ w.cell? ⟨b, o + j * 4, none⟩ = some (.int .i64 (f j).dev) ∧ w.cell? ⟨b, o + j * 4 + 1, none⟩ = some (.int .u32 ((f j).at' : Nat)) ∧ w.cell? ⟨b, o + j * 4 + 2, none⟩ = some (.int .i64 (f j).n) ∧ w.cell? ⟨b, o + j * 4 + 3, none⟩ = some (.int .u32 ((f j).v : Nat))
def MarkAt (a : Option Addr) (N : Nat) (z : Nat → Bool) (w : World) : Prop := ∀ j, j < N → ∃ b o, a = some ⟨b, o, none⟩ ∧ w.cell? ⟨b, o + j, none⟩ = some (.bool (z j))

def OrRel (w : World) (vi vo iv : Value) (wr : World) : Prop :=
  ∃ (k : Nat) (ins outs l : List Pst) (a : Option Addr) (cap : Nat), k ≤ 60 ∧ iv = .int .i64 (k : Nat) ∧ ins = outs ++ l ∧ ins.length ≤ k ∧ OrdAt w.heap.size wr vi vo a cap ins outs l ∧ Below w.heap.size w wr

theorem push_held {wr w1 : World} {b5 : Nat} {vi vo : Value} {a : Option Addr} {cap : Nat} {ins outs l : List Pst} (h : OrdAt b5 wr vi vo a cap ins outs l) (hA : AreasAt wr) (p : Pst) (hp : p.Ok) (hb : Below wr.heap.size wr w1) :
    Calls Tryd.prog 15 #[.agg #[.slice a l.length cap], .agg #[.int .i64 p.dev, .int .u32 (p.at' : Nat), .int .i64 p.n, .int .u32 (p.v : Nat)]] w1 fun e w2 => (∃ a' c, e = .returned (.tuple #[.agg #[.slice a' (pushL l p).length c], errB (pushE l p)]) ∧ (pushL l p).length ≤ c ∧ QAt w2 a' (pushL l p) ∧ ∀ g o s, a' = some ⟨g, o, s⟩ → wr.heap.size ≤ g) ∧ Below w1.heap.size w1 w2 ∧ Below wr.heap.size wr w2 := by
  have h1 := h.bl hb
  refine (push_any a l (by have := h.eight; omega) cap p hp w1 h1.qat (hA.bl hb) h.hc).mono ?_
  rintro e w2 ⟨a', c, rfl, e1, e2, e3, e4⟩
  exact ⟨⟨a', c, rfl, e1, e2, fun g o s e => Nat.le_trans hb.size (e4 g o s e)⟩, e3, below_bl rfl hb e3⟩

theorem pushE_zero {l : List Pst} {p : Pst} (h : pushE l p = 0) : pushL l p = l ++ [p] ∧ checkQ (l ++ [p]) = true := by
  refine ⟨by unfold pushL; rw [if_pos h], ?_⟩
  unfold pushE at h
  by_cases hc : checkQ l = true ∧ mayP p = true
  · rw [if_pos hc] at h
    by_cases h8 : l.length = 8
    · rw [if_pos h8] at h; cases h
    · obtain ⟨h1, h2⟩ := hc
      unfold checkQ at h1 ⊢
      rw [Bool.and_eq_true, decide_eq_true_eq] at h1 ⊢
      refine ⟨by rw [List.length_append]; simp; omega, ?_⟩
      rw [List.all_append, h1.2]
      simp [h2]
  · rw [if_neg hc] at h; cases h
theorem check_tail {p : Pst} {t : List Pst} (h : checkQ (p :: t) = true) : checkQ t = true := by
  unfold checkQ at h ⊢
  rw [Bool.and_eq_true, decide_eq_true_eq] at h ⊢
  refine ⟨by have := h.1; simp at this; omega, ?_⟩
  have := h.2
  rw [List.all_cons, Bool.and_eq_true] at this
  exact this.2
theorem way_q {w2 : World} {x : Nat} {u u0 : Value} {t : TypeId} {a' : Option Addr} {l' : List Pst} (h : QAt w2 a' l') (hr : RowAt w2 x #[.slice none 0 0] t) : QAt (w2.setCell ⟨x, 0, none⟩ u) a' l' := by
  refine ⟨h.ok, ?_⟩
  rcases h.lies with e | ⟨g, e, hp⟩
  · exact .inl e
  · cases l' with
    | nil => exact .inl rfl
    | cons p t =>
      refine .inr ⟨g, e, posts_frame hp (Below.heap_setCell _ _ _ _ (fun hg => ?_))⟩
      have hg' : g = x := hg
      subst hg'
      have h1 := (hp 0 p rfl).1
      have h2 := hr.cell 0
      rw [show (0 * 4) = 0 from rfl, h2] at h1
      cases h1
theorem pop_held {X : World} {b5 : Nat} {vi vo : Value} {a : Option Addr} {cap : Nat} {ins outs : List Pst} {p : Pst} {t : List Pst} (h : OrdAt b5 X vi vo a cap ins outs (p :: t)) (hA : AreasAt X) :
    Calls Tryd.prog 17 #[.agg #[.slice a (p :: t).length cap]] X fun e w2 => ∃ a' c, e = .returned (.tuple #[.agg #[.slice a' t.length c], .agg #[.int .i64 p.dev, .int .u32 (p.at' : Nat), .int .i64 p.n, .int .u32 (p.v : Nat)], .nilIface]) ∧ t.length ≤ c ∧ QAt w2 a' t ∧ (∀ g o s, a' = some ⟨g, o, s⟩ → X.heap.size ≤ g) ∧ Below X.heap.size X w2 := by
  have hE : popE (p :: t) = 0 := by unfold popE; rw [if_pos h.chk, if_neg (by simp)]
  have hL : popL (p :: t) = t := by unfold popL; rw [hE, if_pos rfl]; rfl
  have hP : popP (p :: t) = p := by unfold popP; rw [hE, if_pos rfl]; rfl
  refine (pop_any a (p :: t) (by have := h.eight; omega) cap X h.qat hA h.hc).mono ?_
  rw [hE, hL, hP]
  rintro e w2 ⟨a', c, rfl, e1, e2, e3, e4⟩
  exact ⟨a', c, rfl, e1, e2, e4, e3⟩
theorem pop_void {X : World} {b5 : Nat} {vi vo : Value} {a : Option Addr} {cap : Nat} {ins outs : List Pst} (h : OrdAt b5 X vi vo a cap ins outs []) (hA : AreasAt X) :
    Calls Tryd.prog 17 #[.agg #[.slice a 0 cap]] X fun e w2 => ∃ a' c, e = .returned (.tuple #[.agg #[.slice a' 0 c], .agg #[.int .i64 0, .int .u32 0, .int .i64 0, .int .u32 0], .iface 61 (.int .i64 8)]) ∧ Below X.heap.size X w2 := by
  refine (pop_any a [] (by simp) cap X h.qat hA h.hc).mono ?_
  rintro e w2 ⟨a', c, rfl, e1, e2, e3, e4⟩
  exact ⟨a', c, rfl, e3⟩

theorem keepS {wr w' : World} {b5 b o0 o1 o2 o3 : Nat} {u q0 q1 q2 q3 : Value} (h : wr.cell? ⟨b5, 0, none⟩ = some u) (h0 : wr.cell? ⟨b, o0, none⟩ = some q0) (h1 : wr.cell? ⟨b, o1, none⟩ = some q1) (h2 : wr.cell? ⟨b, o2, none⟩ = some q2) (h3 : wr.cell? ⟨b, o3, none⟩ = some q3) (hb : Below wr.heap.size wr w') :
    w'.cell? ⟨b5, 0, none⟩ = some u ∧ w'.cell? ⟨b, o0, none⟩ = some q0 ∧ w'.cell? ⟨b, o1, none⟩ = some q1 ∧ w'.cell? ⟨b, o2, none⟩ = some q2 ∧ w'.cell? ⟨b, o3, none⟩ = some q3 ∧ Below wr.heap.size wr w' :=
  ⟨cell_bl hb h, cell_bl hb h0, cell_bl hb h1, cell_bl hb h2, cell_bl hb h3, hb⟩
theorem own_slice {W : World} {b e sz n : Nat} {v : Value} {xs : List Value} (h : W.ownsRow b e sz v n xs) : ∃ a c, v = .slice a n c := by
  obtain ⟨h1, ⟨rfl, rfl⟩ | ⟨g, cap, cur, rfl, _⟩⟩ := h
  · exact ⟨none, 0, rfl⟩
  · exact ⟨_, _, rfl⟩
theorem own_posts {W : World} {b n c : Nat} {a : Option Addr} {l : List Pst} (h : W.ownsRow b 46 4 (.slice a n c) l.length (postCells l)) (hl : l ≠ []) : ∃ g, a = some ⟨g, 0, none⟩ ∧ PostsAt g l W ∧ l.length ≤ c := by
  obtain ⟨h1, ⟨_, e⟩ | ⟨g, cap, cur, e1, e2, e3, e4, e5, e6, e7⟩⟩ := h
  · exact absurd (List.length_eq_zero_iff.1 e) hl
  · injection e1 with e1 _ ec
    subst e1
    subst ec
    refine ⟨g, rfl, posts_of_row e3 (fun j u hj => ?_), e4⟩
    have hlt : j < (postCells l).length := (List.getElem?_eq_some_iff.1 hj).1
    rw [← e7, List.getElem?_take] at hj
    rw [postCells_len] at hlt
    rw [if_pos hlt] at hj
    rw [← Array.getElem?_toList]
    exact hj
theorem cell_four_at {w : World} {g : Nat} (hg : w.heap.size = g) (x0 x1 x2 x3 : Value) (t : TypeId) : ∀ (j : Nat) (u : Value), [x0, x1, x2, x3][j]? = some u → (w.alloc (.cells #[x0, x1, x2, x3] t)).cell? ((⟨g, 0, none⟩ : Addr).add j) = some u := by
  intro j u hj
  rw [Addr.add_lit, Nat.zero_add, (RowAt.new w g #[x0, x1, x2, x3] t hg).cell]
  rw [← Array.getElem?_toList]
  exact hj
set_option maxHeartbeats 8000000 in
set_option maxRecDepth 100000 in
theorem order_walk (a0 a1 : Option Addr) (N c0' M c1' : Nat) (hN : N ≤ 9223372036854775807) (hM : M ≤ 9223372036854775807) (f : Nat → Pst) (z : Nat → Bool) (w : World) (hI : ArgAt a0 N f w) (hZ : MarkAt a1 M z w) (hA : AreasAt w) (hH : HandleAt w) :
    Calls Tryd.prog 7 #[.slice a0 N c0', .slice a1 M c1'] w fun e w' => e = .returned (.bool true) ∧ Below w.heap.size w w' := by
  have HI := hide hI
  have HZ := hide hZ
  have HA := hide hA
  have HH := hide hH
  obtain ⟨i0, hi, hq0, hq1, hq2⟩ := info_parts (P := Tryd.prog) (e := 46) (z := .agg #[.int .i64 0, .int .u32 0, .int .i64 0, .int .u32 0]) (size := 4) (bytes := 32) (by kernel_rfl)
  clear hI hZ hA hH
  go_enter Tryd.func7, Tryd.ntmps7
  go_wp2
  go_loopw [6, 7, 8] (OrRel w) (fun _ _ iv _ => 60 - (intOf iv).toNat)
  case atStart =>
    refine ⟨0, [], [], [], none, 0, by omega, rfl, rfl, Nat.le_refl _, ?_, below_one _ _⟩
    exact { chk := by decide, ok := fun p hp => (by cases hp), okq := fun p hp => (by cases hp), oi := ⟨rfl, .inl ⟨rfl, rfl⟩⟩, oo := ⟨rfl, .inl ⟨rfl, rfl⟩⟩, q := RowAt.new w _ _ _ rfl, lies := .inl rfl, hc := Nat.le_refl _,
            aio := fun x hx => (by cases hx), aiq := fun h => absurd rfl h, aoq := fun h => absurd rfl h, anq := fun h => absurd rfl h }
  case round =>
    obtain ⟨k, ins, outs, l, a, cap, hk, rfl, hsp, hil, hO, hB⟩ := hrel
    have HO := hide hO
    have HB := hide hB
    have HS := hide hsp
    have h8 := hO.eight
    obtain ⟨ai, ci, hvi⟩ := own_slice hO.oi
    obtain ⟨ao, co, hvo⟩ := own_slice hO.oo
    obtain ⟨In, hIn⟩ : ∃ In, ins.length = In := ⟨_, rfl⟩
    obtain ⟨On, hOn⟩ : ∃ On, outs.length = On := ⟨_, rfl⟩
    rw [hIn] at hvi
    rw [hOn] at hvo
    subst hvi
    subst hvo
    have HIn := hide hIn
    have HOn := hide hOn
    have hIO : In = On + l.length := by rw [← hIn, ← hOn, hsp, List.length_append]
    have HIO := hide hIO
    have hO60 : On ≤ 100 := by omega
    clear hIn hOn hIO
    have hcap := hO.hc
    clear hO hB hsp
    by_cases hlt : k < N ∧ k < 60
    · have t1 : (k : Int) < (N : Nat) := by omega
      have t2 : (k : Int) < 60 := by omega
      obtain ⟨hpok, b, o, rfl, hblt, y0, y1, y2, y3⟩ := HI.out k hlt.1
      have HPk := hide hpok
      have c0 := cell_bl HB.out y0
      have c1 := cell_bl HB.out y1
      have c2 := cell_bl HB.out y2
      have c3 := cell_bl HB.out y3
      have HY0 := hide y0
      have HY1 := hide y1
      have HY2 := hide y2
      have HY3 := hide y3
      have HPu := hide (fun w1 hb => push_held (w1 := w1) HO.out (HA.out.bl HB.out) (f k) HPk.out hb)
      have R5 := hide HO.out.q
      have q0 : wr.cell? ⟨w.heap.size, 0, none⟩ = some (.slice a l.length cap) := R5.out.cell 0
      have hws : w.heap.size < wr.heap.size := R5.out.lt
      obtain ⟨⟨dev, pa, n, v⟩, hfk⟩ : ∃ p, f k = p := ⟨_, rfl⟩
      rw [hfk] at c0 c1 c2 c3 HPu HPk HY0 HY1 HY2 HY3
      simp only at c0 c1 c2 c3 HPu
      obtain ⟨L, hL⟩ : ∃ L, l.length = L := ⟨_, rfl⟩
      rw [hL] at HPu q0 R5 h8 hcap HIO
      have HLn := hide hL
      clear hL hpok y0 y1 y2 y3 hfk HI
      go_wp2
      go_region_held3 (fun w' => w'.cell? ⟨w.heap.size, 0, none⟩ = some (.slice a L cap) ∧ w'.cell? ⟨b, o + k * 4, none⟩ = some (.int .i64 dev) ∧ w'.cell? ⟨b, o + k * 4 + 1, none⟩ = some (.int .u32 (pa : Nat)) ∧ w'.cell? ⟨b, o + k * 4 + 2, none⟩ = some (.int .i64 n) ∧ w'.cell? ⟨b, o + k * 4 + 3, none⟩ = some (.int .u32 (v : Nat)) ∧ Below wr.heap.size wr w') ((refine keepS q0 c0 c1 c2 c3 ?_; first | assumption | exact (Below.refl _ _).drew | exact ((Below.refl _ wr).drew.alloc (Nat.le_refl _) _) | exact (((Below.refl _ wr).alloc (Nat.le_refl _) _).drew) | exact Below.alloc hB2 hB2.size _ | exact Below.setCell (p := ⟨wr.heap.size, 0, none⟩) hB2 (Nat.le_refl _) _))
        (first | (go_at_call 15; refine (HPu.out _ (by first | assumption | exact (Below.refl _ _).drew | exact ((Below.refl _ wr).drew.alloc (Nat.le_refl _) _) | exact (((Below.refl _ wr).alloc (Nat.le_refl _) _).drew))).mono ?_; rintro e w2 ⟨⟨a', c', rfl, e1, e2, e3⟩, e4, e5⟩; have HQ2 := hide e2; have HF2 := hide e3; have HB2 := hide e5; have hB2 := e5; have HX2 := hide e4; try (have RZ : RowAt w2 wr.heap.size #[.slice none 0 0] 42 := RowAt.bl (by first | exact (RowAt.new wr _ _ _ rfl).dr | exact RowAt.new wr.drew _ _ _ rfl) e4; have z0 : w2.cell? ⟨wr.heap.size, 0, none⟩ = some (.slice none 0 0) := RZ.cell 0; have z1 : w2.frozen? ⟨wr.heap.size, 0, none⟩ = false := RZ.thaw 0; have HRZ := hide RZ; clear RZ); clear e2 e3 e4 e5))
      · obtain ⟨F, hF⟩ : ∃ F, w2.alloc (.cells #[.slice a' (pushL l ⟨dev, pa, n, v⟩).length c'] 42) = F := ⟨_, rfl⟩
        obtain ⟨b9, hb9⟩ : ∃ b9, w2.heap.size = b9 := ⟨_, rfl⟩
        have BF : Below wr.heap.size wr F := hF ▸ HB2.out.alloc HB2.out.size _
        have R9 : RowAt F b9 #[.slice a' (pushL l ⟨dev, pa, n, v⟩).length c'] 42 := hF ▸ RowAt.new w2 b9 _ _ hb9
        have QF : QAt F a' (pushL l ⟨dev, pa, n, v⟩) := hF ▸ HQ2.out.bl (below_one _ _)
        have h9 : wr.heap.size ≤ b9 := hb9 ▸ HB2.out.size
        rw [hF, hb9]
        clear hF hb9
        have HOF := hide (HO.out.bl BF)
        have HBF := hide (below_bl rfl HB.out BF)
        have HR9 := hide R9
        have HQF := hide QF
        clear R9 QF BF HB2 HX2 hB2 HQ2
        have HCL : Hid (pushL l (Pst.mk dev pa n v) = l ++ [(Pst.mk dev pa n v)] → (l ++ [(Pst.mk dev pa n v)]).length ≤ c') := hide (fun e => e ▸ e1)
        have hlb : b < w.heap.size := hblt
        clear e1
        by_cases hm : k < M
        · obtain ⟨bz, oz, rfl, hz⟩ := HZ.out k hm
          have t3 : (k : Int) < (M : Nat) := by omega
          cases hzk : z k with
          | false =>
            rw [hzk] at hz
            have HZk := hide hz
            clear hz hzk
            by_cases hE : pushE l (Pst.mk dev pa n v) = 0
            · obtain ⟨hL', hck⟩ := pushE_zero hE
              rw [hE, hL']
              rw [hL'] at HR9 HQF
              rw [show errB 0 = Value.nilIface from rfl]
              obtain ⟨L1, hL1⟩ : ∃ L1, (l ++ [(Pst.mk dev pa n v)]).length = L1 := ⟨_, rfl⟩
              have hL1' : L1 = L + 1 := by rw [← hL1, List.length_append, HLn.out]; rfl
              rw [hL1] at HR9 ⊢
              have r9 : F.cell? ⟨b9, 0, none⟩ = some (.slice a' L1 c') := HR9.out.cell 0
              have q5 : F.cell? ⟨w.heap.size, 0, none⟩ = some (.slice a L cap) := HLn.out ▸ HOF.out.q.cell 0
              have f5 : F.frozen? ⟨w.heap.size, 0, none⟩ = false := HOF.out.q.thaw 0
              have y0 : ∀ u, (F.setCell ⟨w.heap.size, 0, none⟩ u).cell? ⟨b, o + k * 4, none⟩ = some (.int .i64 dev) := fun u => (World.cell?_setCell_far _ _ _ _ (by show w.heap.size ≠ b; omega)).trans (cell_bl HBF.out HY0.out)
              have y1 : ∀ u, (F.setCell ⟨w.heap.size, 0, none⟩ u).cell? ⟨b, o + k * 4 + 1, none⟩ = some (.int .u32 (pa : Nat)) := fun u => (World.cell?_setCell_far _ _ _ _ (by show w.heap.size ≠ b; omega)).trans (cell_bl HBF.out HY1.out)
              have y2 : ∀ u, (F.setCell ⟨w.heap.size, 0, none⟩ u).cell? ⟨b, o + k * 4 + 2, none⟩ = some (.int .i64 n) := fun u => (World.cell?_setCell_far _ _ _ _ (by show w.heap.size ≠ b; omega)).trans (cell_bl HBF.out HY2.out)
              have y3 : ∀ u, (F.setCell ⟨w.heap.size, 0, none⟩ u).cell? ⟨b, o + k * 4 + 3, none⟩ = some (.int .u32 (v : Nat)) := fun u => (World.cell?_setCell_far _ _ _ _ (by show w.heap.size ≠ b; omega)).trans (cell_bl HBF.out HY3.out)
              have HOX0 : Hid (OrdAt w.heap.size (F.setCell ⟨w.heap.size, 0, none⟩ (.slice a' L1 c')) (.slice ai In ci) (.slice ao On co) a' c' ins outs (l ++ [(Pst.mk dev pa n v)])) := by
                have := OrdAt.setq HO.out HOF.out hck HQF.out (HCL.out hL') (fun g o s e => HF2.out g o s e)
                rw [hL1] at this
                exact hide this
              have HBX0 : Hid (Below w.heap.size w (F.setCell ⟨w.heap.size, 0, none⟩ (.slice a' L1 c'))) := hide (HBF.out.setCell (p := ⟨w.heap.size, 0, none⟩) (Nat.le_refl _) _)
              have HL1 := hide hL1
              have HSz : Hid ((F.setCell ⟨w.heap.size, 0, none⟩ (.slice a' L1 c')).heap.size = F.heap.size) := hide (by simp [World.setCell])
              obtain ⟨I1, hI1⟩ : ∃ I1, (ins ++ [(Pst.mk dev pa n v)]).length = I1 := ⟨_, rfl⟩
              have hI1' : I1 = In + 1 := by rw [← hI1, List.length_append, HIn.out]; rfl
              have HI1 := hide hI1
              have HSX : Hid (ins ++ [(Pst.mk dev pa n v)] = outs ++ (l ++ [(Pst.mk dev pa n v)])) := hide (by rw [HS.out, List.append_assoc])
              have e17 : ((I1 : Int) != (On : Int) + (L1 : Int)) = false := by have := HIO.out; simp; omega
              have hck8 : L1 ≤ 8 := hL1 ▸ (by have hc' := hck; unfold checkQ at hc'; rw [Bool.and_eq_true] at hc'; exact of_decide_eq_true hc'.1)
              have e18 : ¬ 8 < (L1 : Int) := by omega
              have HIl : Hid ((ins ++ [(Pst.mk dev pa n v)]).length ≤ k + 1) := hide (by rw [List.length_append]; simp; omega)
              clear hL1 hI1 hck hE hL' hL1' hI1'
              go_wp2_with (first | (at_builtin; refine wpList_append_own_at _ rfl _ _ 40 rfl (w.heap.size + 1) 46 i0 (.agg #[.int .i64 0, .int .u32 0, .int .i64 0, .int .u32 0]) 4 32 Tryd.underlying40 hi hq0 hq1 hq2 rfl (by decide) _ _ _ rfl (HOX0.out.oi.alloc _) ⟨_, 0, none⟩ 1 1 [.int .i64 dev, .int .u32 (pa : Nat), .int .i64 n, .int .u32 (v : Nat)] rfl rfl (cell_four_at HSz.out _ _ _ _ _) (by intro u hu; simp at hu; rcases hu with rfl | rfl | rfl | rfl <;> rfl) (by unfold maxLen; omega) (by omega) (by have := HOF.out.q.lt; simp; omega) ?_; intro v6 w6 hown6 hgrow6 hnil6 hat6; clear hnil6; have HOX := hide (OrdAt.appI (HOX0.out.bl (below_one _ (.cells #[.int .i64 dev, .int .u32 (pa : Nat), .int .i64 n, .int .u32 (v : Nat)] 46))) (Pst.mk dev pa n v) HPk.out hown6 hgrow6 hat6); have HBX := hide ((HBX0.out.alloc HBX0.out.size (.cells #[.int .i64 dev, .int .u32 (pa : Nat), .int .i64 n, .int .u32 (v : Nat)] 46)).grown hgrow6 (by have := HBF.out.size; simp; omega) (fun j hj => by have := (own_lt HOX0.out.oi hj).1; omega)); clear hown6 hgrow6 hat6; have q6' := HOX.out.q.cell 0; rw [HL1.out] at q6'; have q6 : w6.cell? ⟨w.heap.size, 0, none⟩ = some (.slice a' L1 c') := q6'; clear q6'; obtain ⟨ai', ci', hvi'⟩ := own_slice HOX.out.oi; rw [HI1.out] at hvi'; subst hvi'; have m0 := cell_bl HBX.out HZk.out))
              go_roundw
              case rel => exact ⟨k + 1, ins ++ [(Pst.mk dev pa n v)], outs, l ++ [(Pst.mk dev pa n v)], a', c', by omega, by go_num, HSX.out, HIl.out, HOX.out, HBX.out⟩
              case measure => simp [intOf]; omega
            · rw [show errB (pushE l (Pst.mk dev pa n v)) = .iface 61 (.int .i64 (pushE l (Pst.mk dev pa n v) : Nat)) from by unfold errB; rw [if_neg hE]]
              generalize pushE l (Pst.mk dev pa n v) = kE at *
              generalize (pushL l (Pst.mk dev pa n v)).length = kL at *
              have HOX := HOF
              have HBX := HBF
              have HSX := HS
              have HIl : Hid (ins.length ≤ k + 1) := hide (by omega)
              have q5 : F.cell? ⟨w.heap.size, 0, none⟩ = some (.slice a L cap) := HLn.out ▸ HOF.out.q.cell 0
              have e17 : ((In : Int) != (On : Int) + (L : Int)) = false := by have := HIO.out; simp; omega
              have e18 : ¬ 8 < (L : Int) := by omega
              have m0 := cell_bl HBF.out HZk.out
              go_wp2
              go_roundw
              case rel => exact ⟨k + 1, ins, outs, l, a, cap, by omega, by go_num, HSX.out, HIl.out, HOX.out, HBX.out⟩
              case measure => simp [intOf]; omega
          | true =>
            rw [hzk] at hz
            have HZk := hide hz
            clear hz hzk
            by_cases hE : pushE l (Pst.mk dev pa n v) = 0
            · obtain ⟨hL', hck⟩ := pushE_zero hE
              rw [hE, hL']
              rw [hL'] at HR9 HQF
              rw [show errB 0 = Value.nilIface from rfl]
              obtain ⟨L1, hL1⟩ : ∃ L1, (l ++ [(Pst.mk dev pa n v)]).length = L1 := ⟨_, rfl⟩
              have hL1' : L1 = L + 1 := by rw [← hL1, List.length_append, HLn.out]; rfl
              rw [hL1] at HR9 ⊢
              have r9 : F.cell? ⟨b9, 0, none⟩ = some (.slice a' L1 c') := HR9.out.cell 0
              have q5 : F.cell? ⟨w.heap.size, 0, none⟩ = some (.slice a L cap) := HLn.out ▸ HOF.out.q.cell 0
              have f5 : F.frozen? ⟨w.heap.size, 0, none⟩ = false := HOF.out.q.thaw 0
              have y0 : ∀ u, (F.setCell ⟨w.heap.size, 0, none⟩ u).cell? ⟨b, o + k * 4, none⟩ = some (.int .i64 dev) := fun u => (World.cell?_setCell_far _ _ _ _ (by show w.heap.size ≠ b; omega)).trans (cell_bl HBF.out HY0.out)
              have y1 : ∀ u, (F.setCell ⟨w.heap.size, 0, none⟩ u).cell? ⟨b, o + k * 4 + 1, none⟩ = some (.int .u32 (pa : Nat)) := fun u => (World.cell?_setCell_far _ _ _ _ (by show w.heap.size ≠ b; omega)).trans (cell_bl HBF.out HY1.out)
              have y2 : ∀ u, (F.setCell ⟨w.heap.size, 0, none⟩ u).cell? ⟨b, o + k * 4 + 2, none⟩ = some (.int .i64 n) := fun u => (World.cell?_setCell_far _ _ _ _ (by show w.heap.size ≠ b; omega)).trans (cell_bl HBF.out HY2.out)
              have y3 : ∀ u, (F.setCell ⟨w.heap.size, 0, none⟩ u).cell? ⟨b, o + k * 4 + 3, none⟩ = some (.int .u32 (v : Nat)) := fun u => (World.cell?_setCell_far _ _ _ _ (by show w.heap.size ≠ b; omega)).trans (cell_bl HBF.out HY3.out)
              have HOX0 : Hid (OrdAt w.heap.size (F.setCell ⟨w.heap.size, 0, none⟩ (.slice a' L1 c')) (.slice ai In ci) (.slice ao On co) a' c' ins outs (l ++ [(Pst.mk dev pa n v)])) := by
                have := OrdAt.setq HO.out HOF.out hck HQF.out (HCL.out hL') (fun g o s e => HF2.out g o s e)
                rw [hL1] at this
                exact hide this
              have HBX0 : Hid (Below w.heap.size w (F.setCell ⟨w.heap.size, 0, none⟩ (.slice a' L1 c'))) := hide (HBF.out.setCell (p := ⟨w.heap.size, 0, none⟩) (Nat.le_refl _) _)
              have HL1 := hide hL1
              have HSz : Hid ((F.setCell ⟨w.heap.size, 0, none⟩ (.slice a' L1 c')).heap.size = F.heap.size) := hide (by simp [World.setCell])
              obtain ⟨I1, hI1⟩ : ∃ I1, (ins ++ [(Pst.mk dev pa n v)]).length = I1 := ⟨_, rfl⟩
              have hI1' : I1 = In + 1 := by rw [← hI1, List.length_append, HIn.out]; rfl
              have HI1 := hide hI1
              have HSX : Hid (ins ++ [(Pst.mk dev pa n v)] = outs ++ (l ++ [(Pst.mk dev pa n v)])) := hide (by rw [HS.out, List.append_assoc])
              have e17 : ((I1 : Int) != (On : Int) + (L1 : Int)) = false := by have := HIO.out; simp; omega
              have hck8 : L1 ≤ 8 := hL1 ▸ (by have hc' := hck; unfold checkQ at hc'; rw [Bool.and_eq_true] at hc'; exact of_decide_eq_true hc'.1)
              have e18 : ¬ 8 < (L1 : Int) := by omega
              have HIl : Hid ((ins ++ [(Pst.mk dev pa n v)]).length ≤ k + 1) := hide (by rw [List.length_append]; simp; omega)
              clear hL1 hI1 hck hE hL' hL1' hI1'
              obtain ⟨p1, t1, hpt⟩ : ∃ p1 t1, l ++ [(Pst.mk dev pa n v)] = p1 :: t1 := by cases l with
                | nil => exact ⟨_, _, rfl⟩
                | cons x r => exact ⟨_, _, rfl⟩
              obtain ⟨T1, hT1⟩ : ∃ T1, t1.length = T1 := ⟨_, rfl⟩
              have hTL : L1 = T1 + 1 := by
                have hh := congrArg List.length hpt
                rw [HL1.out] at hh
                rw [hh, ← hT1]; rfl
              have HPop : Hid (∀ (X : World) (vi : Value), OrdAt w.heap.size X vi (.slice ao On co) a' c' (ins ++ [(Pst.mk dev pa n v)]) outs (p1 :: t1) → AreasAt X → Calls Tryd.prog 17 #[.agg #[.slice a' L1 c']] X fun e w2 => ∃ a' c, e = .returned (.tuple #[.agg #[.slice a' T1 c], .agg #[.int .i64 p1.dev, .int .u32 (p1.at' : Nat), .int .i64 p1.n, .int .u32 (p1.v : Nat)], .nilIface]) ∧ T1 ≤ c ∧ QAt w2 a' t1 ∧ (∀ g o s, a' = some ⟨g, o, s⟩ → X.heap.size ≤ g) ∧ Below X.heap.size X w2) := by
                refine hide (fun X vi h hA => ?_)
                have := pop_held h hA
                rw [hT1, show (p1 :: t1).length = L1 by rw [hTL, ← hT1]; rfl] at this
                exact this
              have HTL := hide hTL
              have HT1 := hide hT1
              have HPT := hide hpt
              clear hT1 hTL hpt
              go_wp2_with (first | (at_builtin; refine wpList_append_own_at _ rfl _ _ 40 rfl (w.heap.size + 1) 46 i0 (.agg #[.int .i64 0, .int .u32 0, .int .i64 0, .int .u32 0]) 4 32 Tryd.underlying40 hi hq0 hq1 hq2 rfl (by decide) _ _ _ rfl (HOX0.out.oi.alloc _) ⟨_, 0, none⟩ 1 1 [.int .i64 dev, .int .u32 (pa : Nat), .int .i64 n, .int .u32 (v : Nat)] rfl rfl (cell_four_at HSz.out _ _ _ _ _) (by intro u hu; simp at hu; rcases hu with rfl | rfl | rfl | rfl <;> rfl) (by unfold maxLen; omega) (by omega) (by have := HOF.out.q.lt; simp; omega) ?_; intro v6 w6 hown6 hgrow6 hnil6 hat6; clear hnil6; have HOX := hide (OrdAt.appI (HOX0.out.bl (below_one _ (.cells #[.int .i64 dev, .int .u32 (pa : Nat), .int .i64 n, .int .u32 (v : Nat)] 46))) (Pst.mk dev pa n v) HPk.out hown6 hgrow6 hat6); have HBX := hide ((HBX0.out.alloc HBX0.out.size (.cells #[.int .i64 dev, .int .u32 (pa : Nat), .int .i64 n, .int .u32 (v : Nat)] 46)).grown hgrow6 (by have := HBF.out.size; simp; omega) (fun j hj => by have := (own_lt HOX0.out.oi hj).1; omega)); clear hown6 hgrow6 hat6; have q6' := HOX.out.q.cell 0; rw [HL1.out] at q6'; have q6 : w6.cell? ⟨w.heap.size, 0, none⟩ = some (.slice a' L1 c') := q6'; clear q6'; obtain ⟨ai', ci', hvi'⟩ := own_slice HOX.out.oi; rw [HI1.out] at hvi'; subst hvi'; have m0 := cell_bl HBX.out HZk.out; rw [HPT.out] at HOX) | (go_at_call 17; refine (HPop.out _ _ HOX.out (HA.out.bl HBX.out)).mono ?_; rintro e w7 ⟨a7, c7, rfl, g1, g2, g3, g4⟩; have HQ7 := hide g2; have HF7 := hide g3; have HX7 := hide g4; have HB7 := hide (below_bl rfl HBX.out g4); have hc7 := g1; clear g1 g2 g3 g4))
              obtain ⟨Y, hY⟩ : ∃ Y, (w7.alloc (.cells #[.slice a7 T1 c7] 42)).alloc (.cells #[.int .i64 p1.dev, .int .u32 (p1.at' : Nat), .int .i64 p1.n, .int .u32 (p1.v : Nat)] 46) = Y := ⟨_, rfl⟩
              have R11 : Hid (RowAt Y w7.heap.size #[.slice a7 T1 c7] 42) := hide (hY ▸ (RowAt.new w7 _ _ _ rfl).al _)
              have R12 : Hid (RowAt Y (w7.heap.size + 1) #[.int .i64 p1.dev, .int .u32 (p1.at' : Nat), .int .i64 p1.n, .int .u32 (p1.v : Nat)] 46) := hide (hY ▸ RowAt.new _ _ _ _ (by simp))
              have hYb : Below w7.heap.size w7 Y := hY ▸ below_two _ _ _
              have HOY := hide ((HOX.out.bl HX7.out).bl hYb)
              have HBY := hide (below_bl rfl HB7.out hYb)
              have HQY := hide (HQ7.out.bl hYb)
              rw [hY]
              clear hY hYb
              have qY : Y.cell? ⟨w.heap.size, 0, none⟩ = some (.slice a' L1 c') := by
                have := HOY.out.q.cell 0
                rw [show (p1 :: t1).length = L1 by rw [HTL.out, ← HT1.out]; rfl] at this
                exact this
              have tL0 : 0 < L1 := by have := HTL.out; omega
              go_quiet (fail)
              obtain ⟨Z, hZ⟩ : ∃ Z, Y.drewN nq = Z := ⟨_, rfl⟩
              have hZb : Below Y.heap.size Y Z := hZ ▸ below_dn (Below.refl _ _) _
              have HOZ := hide (HOY.out.bl hZb)
              have HBZ := hide (below_bl rfl HBY.out hZb)
              have HQZ := hide (HQY.out.bl hZb)
              have R11Z := hide (R11.out.bl hZb)
              have R12Z := hide (R12.out.bl hZb)
              rw [hZ]
              clear hZ hZb qY
              have hw7 : w.heap.size < w7.heap.size := (HOX.out.bl HX7.out).q.lt
              have r11 : Z.cell? ⟨w7.heap.size, 0, none⟩ = some (.slice a7 T1 c7) := R11Z.out.cell 0
              have f5 : Z.frozen? ⟨w.heap.size, 0, none⟩ = false := HOZ.out.q.thaw 0
              have q5 : Z.cell? ⟨w.heap.size, 0, none⟩ = some (.slice a' L1 c') := by
                have := HOZ.out.q.cell 0
                rw [show (p1 :: t1).length = L1 by rw [HTL.out, ← HT1.out]; rfl] at this
                exact this
              have x0 : ∀ u, (Z.setCell ⟨w.heap.size, 0, none⟩ u).cell? ⟨w7.heap.size + 1, 0, none⟩ = some (.int .i64 p1.dev) := fun u => (World.cell?_setCell_far _ _ _ _ (by show w.heap.size ≠ w7.heap.size + 1; omega)).trans (R12Z.out.cell 0)
              have x1 : ∀ u, (Z.setCell ⟨w.heap.size, 0, none⟩ u).cell? ⟨w7.heap.size + 1, 1, none⟩ = some (.int .u32 (p1.at' : Nat)) := fun u => (World.cell?_setCell_far _ _ _ _ (by show w.heap.size ≠ w7.heap.size + 1; omega)).trans (R12Z.out.cell 1)
              have x2 : ∀ u, (Z.setCell ⟨w.heap.size, 0, none⟩ u).cell? ⟨w7.heap.size + 1, 2, none⟩ = some (.int .i64 p1.n) := fun u => (World.cell?_setCell_far _ _ _ _ (by show w.heap.size ≠ w7.heap.size + 1; omega)).trans (R12Z.out.cell 2)
              have x3 : ∀ u, (Z.setCell ⟨w.heap.size, 0, none⟩ u).cell? ⟨w7.heap.size + 1, 3, none⟩ = some (.int .u32 (p1.v : Nat)) := fun u => (World.cell?_setCell_far _ _ _ _ (by show w.heap.size ≠ w7.heap.size + 1; omega)).trans (R12Z.out.cell 3)
              have HOW0 : Hid (OrdAt w.heap.size (Z.setCell ⟨w.heap.size, 0, none⟩ (.slice a7 T1 c7)) (.slice ai' I1 ci') (.slice ao On co) a7 c7 (ins ++ [(Pst.mk dev pa n v)]) outs t1) := by
                have := OrdAt.setq HOX.out HOZ.out (check_tail HOX.out.chk) HQZ.out (by rw [HT1.out]; exact hc7) HF7.out
                rw [HT1.out] at this
                exact hide this
              have HBW0 : Hid (Below w.heap.size w (Z.setCell ⟨w.heap.size, 0, none⟩ (.slice a7 T1 c7))) := hide (HBZ.out.setCell (p := ⟨w.heap.size, 0, none⟩) (Nat.le_refl _) _)
              have HSzZ : Hid ((Z.setCell ⟨w.heap.size, 0, none⟩ (.slice a7 T1 c7)).heap.size = Z.heap.size) := hide (by simp [World.setCell])
              obtain ⟨O1, hO1⟩ : ∃ O1, (outs ++ [p1]).length = O1 := ⟨_, rfl⟩
              have hO1' : O1 = On + 1 := by rw [← hO1, List.length_append, HOn.out]; rfl
              have HO1 := hide hO1
              have HSW : Hid (ins ++ [(Pst.mk dev pa n v)] = (outs ++ [p1]) ++ t1) := hide (by rw [HSX.out, HPT.out, List.append_assoc]; rfl)
              have hix : I1 = On + L1 := by have h17 := e17; simp at h17; omega
              have e17' : ((I1 : Int) != (O1 : Int) + (T1 : Int)) = false := by have := HTL.out; simp; omega
              have e18' : ¬ 8 < (T1 : Int) := by have := HTL.out; omega
              have hO161 : O1 ≤ 101 := by omega
              have hT8 : T1 ≤ 8 := by have := HTL.out; omega
              have hout : outs.length ≤ 100 := by rw [HOn.out]; omega
              clear hO1 hO1' hix e17 e18
              go_wp2_with (first | (at_builtin; refine wpList_append_own_at _ rfl _ _ 40 rfl (w.heap.size + 1) 46 i0 (.agg #[.int .i64 0, .int .u32 0, .int .i64 0, .int .u32 0]) 4 32 Tryd.underlying40 hi hq0 hq1 hq2 rfl (by decide) _ _ _ rfl (HOW0.out.oo.alloc _) ⟨_, 0, none⟩ 1 1 [.int .i64 p1.dev, .int .u32 (p1.at' : Nat), .int .i64 p1.n, .int .u32 (p1.v : Nat)] rfl rfl (cell_four_at HSzZ.out _ _ _ _ _) (by intro u hu; simp at hu; rcases hu with rfl | rfl | rfl | rfl <;> rfl) (by unfold maxLen; omega) (by omega) (by have := HOZ.out.q.lt; simp; omega) ?_; intro v8 w8 hown8 hgrow8 hnil8 hat8; clear hnil8; have HOW := hide (OrdAt.appO (HOW0.out.bl (below_one _ (.cells #[.int .i64 p1.dev, .int .u32 (p1.at' : Nat), .int .i64 p1.n, .int .u32 (p1.v : Nat)] 46))) p1 hown8 hgrow8 hat8); have HBW := hide ((HBW0.out.alloc HBW0.out.size (.cells #[.int .i64 p1.dev, .int .u32 (p1.at' : Nat), .int .i64 p1.n, .int .u32 (p1.v : Nat)] 46)).grown hgrow8 (by have := HBZ.out.size; simp; omega) (fun j hj => by have := (own_lt HOW0.out.oo hj).1; omega)); clear hown8 hgrow8 hat8; have q8' := HOW.out.q.cell 0; rw [HT1.out] at q8'; have q8 : w8.cell? ⟨w.heap.size, 0, none⟩ = some (.slice a7 T1 c7) := q8'; clear q8'; obtain ⟨ao', co', hvo'⟩ := own_slice HOW.out.oo; rw [HO1.out] at hvo'; subst hvo'))
              go_roundw
              case rel => exact ⟨k + 1, ins ++ [(Pst.mk dev pa n v)], outs ++ [p1], t1, a7, c7, by omega, by go_num, HSW.out, HIl.out, HOW.out, HBW.out⟩
              case measure => simp [intOf]; omega
            · rw [show errB (pushE l (Pst.mk dev pa n v)) = .iface 61 (.int .i64 (pushE l (Pst.mk dev pa n v) : Nat)) from by unfold errB; rw [if_neg hE]]
              generalize pushE l (Pst.mk dev pa n v) = kE at *
              generalize (pushL l (Pst.mk dev pa n v)).length = kL at *
              have HOX := HOF
              have HBX := HBF
              have HSX := HS
              have HIl : Hid (ins.length ≤ k + 1) := hide (by omega)
              have q5 : F.cell? ⟨w.heap.size, 0, none⟩ = some (.slice a L cap) := HLn.out ▸ HOF.out.q.cell 0
              have e17 : ((In : Int) != (On : Int) + (L : Int)) = false := by have := HIO.out; simp; omega
              have e18 : ¬ 8 < (L : Int) := by omega
              have m0 := cell_bl HBF.out HZk.out
              rcases hl0 : l with _ | ⟨p1, t1⟩
              · have hL0 : L = 0 := by rw [← HLn.out, hl0]; rfl
                subst hL0
                rw [hl0] at HOX HSX
                have e17z : ((In : Int) != (On : Int)) = false := by have := HIO.out; simp; omega
                have HPop0 := hide (pop_void HOX.out (HA.out.bl HBX.out))
                clear hl0
                go_wp2_with (first | (go_at_call 17; refine HPop0.out.mono ?_; rintro e w7 ⟨a7, c7, rfl, g4⟩; have HX7 := hide g4; have HB7 := hide (below_bl rfl HBX.out g4); clear g4))
                obtain ⟨Y, hY⟩ : ∃ Y, (w7.alloc (.cells #[.slice a7 0 c7] 42)).alloc (.cells #[.int .i64 0, .int .u32 0, .int .i64 0, .int .u32 0] 46) = Y := ⟨_, rfl⟩
                have hYb : Below w7.heap.size w7 Y := hY ▸ below_two _ _ _
                have HOY := hide ((HOX.out.bl HX7.out).bl hYb)
                have HBY := hide (below_bl rfl HB7.out hYb)
                rw [hY]
                clear hY hYb q5
                have qY : Y.cell? ⟨w.heap.size, 0, none⟩ = some (.slice a 0 cap) := HOY.out.q.cell 0
                go_quiet (fail)
                obtain ⟨Z, hZ⟩ : ∃ Z, Y.drewN nq = Z := ⟨_, rfl⟩
                have hZb : Below Y.heap.size Y Z := hZ ▸ below_dn (Below.refl _ _) _
                have HOZ := hide (HOY.out.bl hZb)
                have HBZ := hide (below_bl rfl HBY.out hZb)
                rw [hZ]
                clear hZ hZb qY
                have qZ : Z.cell? ⟨w.heap.size, 0, none⟩ = some (.slice a 0 cap) := HOZ.out.q.cell 0
                go_wp2
                go_roundw
                case rel => exact ⟨k + 1, ins, outs, [], a, cap, by omega, by go_num, HSX.out, HIl.out, HOZ.out, HBZ.out⟩
                case measure => simp [intOf]; omega
              · have hpt : l = p1 :: t1 := hl0
                clear hl0
                rw [hpt] at HOX
                obtain ⟨T1, hT1⟩ : ∃ T1, t1.length = T1 := ⟨_, rfl⟩
                have hTL : L = T1 + 1 := by
                  have hh := congrArg List.length hpt
                  rw [HLn.out] at hh
                  rw [hh, ← hT1]; rfl
                have HPop : Hid (∀ (X : World) (vi : Value), OrdAt w.heap.size X vi (.slice ao On co) a cap (ins) outs (p1 :: t1) → AreasAt X → Calls Tryd.prog 17 #[.agg #[.slice a L cap]] X fun e w2 => ∃ a' c, e = .returned (.tuple #[.agg #[.slice a' T1 c], .agg #[.int .i64 p1.dev, .int .u32 (p1.at' : Nat), .int .i64 p1.n, .int .u32 (p1.v : Nat)], .nilIface]) ∧ T1 ≤ c ∧ QAt w2 a' t1 ∧ (∀ g o s, a' = some ⟨g, o, s⟩ → X.heap.size ≤ g) ∧ Below X.heap.size X w2) := by
                  refine hide (fun X vi h hA => ?_)
                  have := pop_held h hA
                  rw [hT1, show (p1 :: t1).length = L by rw [hTL, ← hT1]; rfl] at this
                  exact this
                have HTL := hide hTL
                have HT1 := hide hT1
                have HPT := hide hpt
                clear hT1 hTL hpt
                go_wp2_with (first | (go_at_call 17; refine (HPop.out _ _ HOX.out (HA.out.bl HBX.out)).mono ?_; rintro e w7 ⟨a7, c7, rfl, g1, g2, g3, g4⟩; have HQ7 := hide g2; have HF7 := hide g3; have HX7 := hide g4; have HB7 := hide (below_bl rfl HBX.out g4); have hc7 := g1; clear g1 g2 g3 g4))
                obtain ⟨Y, hY⟩ : ∃ Y, (w7.alloc (.cells #[.slice a7 T1 c7] 42)).alloc (.cells #[.int .i64 p1.dev, .int .u32 (p1.at' : Nat), .int .i64 p1.n, .int .u32 (p1.v : Nat)] 46) = Y := ⟨_, rfl⟩
                have R11 : Hid (RowAt Y w7.heap.size #[.slice a7 T1 c7] 42) := hide (hY ▸ (RowAt.new w7 _ _ _ rfl).al _)
                have R12 : Hid (RowAt Y (w7.heap.size + 1) #[.int .i64 p1.dev, .int .u32 (p1.at' : Nat), .int .i64 p1.n, .int .u32 (p1.v : Nat)] 46) := hide (hY ▸ RowAt.new _ _ _ _ (by simp))
                have hYb : Below w7.heap.size w7 Y := hY ▸ below_two _ _ _
                have HOY := hide ((HOX.out.bl HX7.out).bl hYb)
                have HBY := hide (below_bl rfl HB7.out hYb)
                have HQY := hide (HQ7.out.bl hYb)
                rw [hY]
                clear hY hYb
                have qY : Y.cell? ⟨w.heap.size, 0, none⟩ = some (.slice a L cap) := by
                  have := HOY.out.q.cell 0
                  rw [show (p1 :: t1).length = L by rw [HTL.out, ← HT1.out]; rfl] at this
                  exact this
                have tL0 : 0 < L := by have := HTL.out; omega
                go_quiet (fail)
                obtain ⟨Z, hZ⟩ : ∃ Z, Y.drewN nq = Z := ⟨_, rfl⟩
                have hZb : Below Y.heap.size Y Z := hZ ▸ below_dn (Below.refl _ _) _
                have HOZ := hide (HOY.out.bl hZb)
                have HBZ := hide (below_bl rfl HBY.out hZb)
                have HQZ := hide (HQY.out.bl hZb)
                have R11Z := hide (R11.out.bl hZb)
                have R12Z := hide (R12.out.bl hZb)
                rw [hZ]
                clear hZ hZb qY
                have hw7 : w.heap.size < w7.heap.size := (HOX.out.bl HX7.out).q.lt
                have r11 : Z.cell? ⟨w7.heap.size, 0, none⟩ = some (.slice a7 T1 c7) := R11Z.out.cell 0
                have f5 : Z.frozen? ⟨w.heap.size, 0, none⟩ = false := HOZ.out.q.thaw 0
                have q5 : Z.cell? ⟨w.heap.size, 0, none⟩ = some (.slice a L cap) := by
                  have := HOZ.out.q.cell 0
                  rw [show (p1 :: t1).length = L by rw [HTL.out, ← HT1.out]; rfl] at this
                  exact this
                have x0 : ∀ u, (Z.setCell ⟨w.heap.size, 0, none⟩ u).cell? ⟨w7.heap.size + 1, 0, none⟩ = some (.int .i64 p1.dev) := fun u => (World.cell?_setCell_far _ _ _ _ (by show w.heap.size ≠ w7.heap.size + 1; omega)).trans (R12Z.out.cell 0)
                have x1 : ∀ u, (Z.setCell ⟨w.heap.size, 0, none⟩ u).cell? ⟨w7.heap.size + 1, 1, none⟩ = some (.int .u32 (p1.at' : Nat)) := fun u => (World.cell?_setCell_far _ _ _ _ (by show w.heap.size ≠ w7.heap.size + 1; omega)).trans (R12Z.out.cell 1)
                have x2 : ∀ u, (Z.setCell ⟨w.heap.size, 0, none⟩ u).cell? ⟨w7.heap.size + 1, 2, none⟩ = some (.int .i64 p1.n) := fun u => (World.cell?_setCell_far _ _ _ _ (by show w.heap.size ≠ w7.heap.size + 1; omega)).trans (R12Z.out.cell 2)
                have x3 : ∀ u, (Z.setCell ⟨w.heap.size, 0, none⟩ u).cell? ⟨w7.heap.size + 1, 3, none⟩ = some (.int .u32 (p1.v : Nat)) := fun u => (World.cell?_setCell_far _ _ _ _ (by show w.heap.size ≠ w7.heap.size + 1; omega)).trans (R12Z.out.cell 3)
                have HOW0 : Hid (OrdAt w.heap.size (Z.setCell ⟨w.heap.size, 0, none⟩ (.slice a7 T1 c7)) (.slice ai In ci) (.slice ao On co) a7 c7 (ins) outs t1) := by
                  have := OrdAt.setq HOX.out HOZ.out (check_tail HOX.out.chk) HQZ.out (by rw [HT1.out]; exact hc7) HF7.out
                  rw [HT1.out] at this
                  exact hide this
                have HBW0 : Hid (Below w.heap.size w (Z.setCell ⟨w.heap.size, 0, none⟩ (.slice a7 T1 c7))) := hide (HBZ.out.setCell (p := ⟨w.heap.size, 0, none⟩) (Nat.le_refl _) _)
                have HSzZ : Hid ((Z.setCell ⟨w.heap.size, 0, none⟩ (.slice a7 T1 c7)).heap.size = Z.heap.size) := hide (by simp [World.setCell])
                obtain ⟨O1, hO1⟩ : ∃ O1, (outs ++ [p1]).length = O1 := ⟨_, rfl⟩
                have hO1' : O1 = On + 1 := by rw [← hO1, List.length_append, HOn.out]; rfl
                have HO1 := hide hO1
                have HSW : Hid (ins = (outs ++ [p1]) ++ t1) := hide (by rw [HSX.out, HPT.out, List.append_assoc]; rfl)
                have hix : In = On + L := by have h17 := e17; simp at h17; omega
                have e17' : ((In : Int) != (O1 : Int) + (T1 : Int)) = false := by have := HTL.out; simp; omega
                have e18' : ¬ 8 < (T1 : Int) := by have := HTL.out; omega
                have hO161 : O1 ≤ 101 := by omega
                have hT8 : T1 ≤ 8 := by have := HTL.out; omega
                have hout : outs.length ≤ 100 := by rw [HOn.out]; omega
                clear hO1 hO1' hix e17 e18
                go_wp2_with (first | (at_builtin; refine wpList_append_own_at _ rfl _ _ 40 rfl (w.heap.size + 1) 46 i0 (.agg #[.int .i64 0, .int .u32 0, .int .i64 0, .int .u32 0]) 4 32 Tryd.underlying40 hi hq0 hq1 hq2 rfl (by decide) _ _ _ rfl (HOW0.out.oo.alloc _) ⟨_, 0, none⟩ 1 1 [.int .i64 p1.dev, .int .u32 (p1.at' : Nat), .int .i64 p1.n, .int .u32 (p1.v : Nat)] rfl rfl (cell_four_at HSzZ.out _ _ _ _ _) (by intro u hu; simp at hu; rcases hu with rfl | rfl | rfl | rfl <;> rfl) (by unfold maxLen; omega) (by omega) (by have := HOZ.out.q.lt; simp; omega) ?_; intro v8 w8 hown8 hgrow8 hnil8 hat8; clear hnil8; have HOW := hide (OrdAt.appO (HOW0.out.bl (below_one _ (.cells #[.int .i64 p1.dev, .int .u32 (p1.at' : Nat), .int .i64 p1.n, .int .u32 (p1.v : Nat)] 46))) p1 hown8 hgrow8 hat8); have HBW := hide ((HBW0.out.alloc HBW0.out.size (.cells #[.int .i64 p1.dev, .int .u32 (p1.at' : Nat), .int .i64 p1.n, .int .u32 (p1.v : Nat)] 46)).grown hgrow8 (by have := HBZ.out.size; simp; omega) (fun j hj => by have := (own_lt HOW0.out.oo hj).1; omega)); clear hown8 hgrow8 hat8; have q8' := HOW.out.q.cell 0; rw [HT1.out] at q8'; have q8 : w8.cell? ⟨w.heap.size, 0, none⟩ = some (.slice a7 T1 c7) := q8'; clear q8'; obtain ⟨ao', co', hvo'⟩ := own_slice HOW.out.oo; rw [HO1.out] at hvo'; subst hvo'))
                go_roundw
                case rel => exact ⟨k + 1, ins, outs ++ [p1], t1, a7, c7, by omega, by go_num, HSW.out, HIl.out, HOW.out, HBW.out⟩
                case measure => simp [intOf]; omega
        · have t3 : ¬ (k : Int) < (M : Nat) := by omega
          by_cases hE : pushE l (Pst.mk dev pa n v) = 0
          · obtain ⟨hL', hck⟩ := pushE_zero hE
            rw [hE, hL']
            rw [hL'] at HR9 HQF
            rw [show errB 0 = Value.nilIface from rfl]
            obtain ⟨L1, hL1⟩ : ∃ L1, (l ++ [(Pst.mk dev pa n v)]).length = L1 := ⟨_, rfl⟩
            have hL1' : L1 = L + 1 := by rw [← hL1, List.length_append, HLn.out]; rfl
            rw [hL1] at HR9 ⊢
            have r9 : F.cell? ⟨b9, 0, none⟩ = some (.slice a' L1 c') := HR9.out.cell 0
            have q5 : F.cell? ⟨w.heap.size, 0, none⟩ = some (.slice a L cap) := HLn.out ▸ HOF.out.q.cell 0
            have f5 : F.frozen? ⟨w.heap.size, 0, none⟩ = false := HOF.out.q.thaw 0
            have y0 : ∀ u, (F.setCell ⟨w.heap.size, 0, none⟩ u).cell? ⟨b, o + k * 4, none⟩ = some (.int .i64 dev) := fun u => (World.cell?_setCell_far _ _ _ _ (by show w.heap.size ≠ b; omega)).trans (cell_bl HBF.out HY0.out)
            have y1 : ∀ u, (F.setCell ⟨w.heap.size, 0, none⟩ u).cell? ⟨b, o + k * 4 + 1, none⟩ = some (.int .u32 (pa : Nat)) := fun u => (World.cell?_setCell_far _ _ _ _ (by show w.heap.size ≠ b; omega)).trans (cell_bl HBF.out HY1.out)
            have y2 : ∀ u, (F.setCell ⟨w.heap.size, 0, none⟩ u).cell? ⟨b, o + k * 4 + 2, none⟩ = some (.int .i64 n) := fun u => (World.cell?_setCell_far _ _ _ _ (by show w.heap.size ≠ b; omega)).trans (cell_bl HBF.out HY2.out)
            have y3 : ∀ u, (F.setCell ⟨w.heap.size, 0, none⟩ u).cell? ⟨b, o + k * 4 + 3, none⟩ = some (.int .u32 (v : Nat)) := fun u => (World.cell?_setCell_far _ _ _ _ (by show w.heap.size ≠ b; omega)).trans (cell_bl HBF.out HY3.out)
            have HOX0 : Hid (OrdAt w.heap.size (F.setCell ⟨w.heap.size, 0, none⟩ (.slice a' L1 c')) (.slice ai In ci) (.slice ao On co) a' c' ins outs (l ++ [(Pst.mk dev pa n v)])) := by
              have := OrdAt.setq HO.out HOF.out hck HQF.out (HCL.out hL') (fun g o s e => HF2.out g o s e)
              rw [hL1] at this
              exact hide this
            have HBX0 : Hid (Below w.heap.size w (F.setCell ⟨w.heap.size, 0, none⟩ (.slice a' L1 c'))) := hide (HBF.out.setCell (p := ⟨w.heap.size, 0, none⟩) (Nat.le_refl _) _)
            have HL1 := hide hL1
            have HSz : Hid ((F.setCell ⟨w.heap.size, 0, none⟩ (.slice a' L1 c')).heap.size = F.heap.size) := hide (by simp [World.setCell])
            obtain ⟨I1, hI1⟩ : ∃ I1, (ins ++ [(Pst.mk dev pa n v)]).length = I1 := ⟨_, rfl⟩
            have hI1' : I1 = In + 1 := by rw [← hI1, List.length_append, HIn.out]; rfl
            have HI1 := hide hI1
            have HSX : Hid (ins ++ [(Pst.mk dev pa n v)] = outs ++ (l ++ [(Pst.mk dev pa n v)])) := hide (by rw [HS.out, List.append_assoc])
            have e17 : ((I1 : Int) != (On : Int) + (L1 : Int)) = false := by have := HIO.out; simp; omega
            have hck8 : L1 ≤ 8 := hL1 ▸ (by have hc' := hck; unfold checkQ at hc'; rw [Bool.and_eq_true] at hc'; exact of_decide_eq_true hc'.1)
            have e18 : ¬ 8 < (L1 : Int) := by omega
            have HIl : Hid ((ins ++ [(Pst.mk dev pa n v)]).length ≤ k + 1) := hide (by rw [List.length_append]; simp; omega)
            clear hL1 hI1 hck hE hL' hL1' hI1'
            go_wp2_with (first | (at_builtin; refine wpList_append_own_at _ rfl _ _ 40 rfl (w.heap.size + 1) 46 i0 (.agg #[.int .i64 0, .int .u32 0, .int .i64 0, .int .u32 0]) 4 32 Tryd.underlying40 hi hq0 hq1 hq2 rfl (by decide) _ _ _ rfl (HOX0.out.oi.alloc _) ⟨_, 0, none⟩ 1 1 [.int .i64 dev, .int .u32 (pa : Nat), .int .i64 n, .int .u32 (v : Nat)] rfl rfl (cell_four_at HSz.out _ _ _ _ _) (by intro u hu; simp at hu; rcases hu with rfl | rfl | rfl | rfl <;> rfl) (by unfold maxLen; omega) (by omega) (by have := HOF.out.q.lt; simp; omega) ?_; intro v6 w6 hown6 hgrow6 hnil6 hat6; clear hnil6; have HOX := hide (OrdAt.appI (HOX0.out.bl (below_one _ (.cells #[.int .i64 dev, .int .u32 (pa : Nat), .int .i64 n, .int .u32 (v : Nat)] 46))) (Pst.mk dev pa n v) HPk.out hown6 hgrow6 hat6); have HBX := hide ((HBX0.out.alloc HBX0.out.size (.cells #[.int .i64 dev, .int .u32 (pa : Nat), .int .i64 n, .int .u32 (v : Nat)] 46)).grown hgrow6 (by have := HBF.out.size; simp; omega) (fun j hj => by have := (own_lt HOX0.out.oi hj).1; omega)); clear hown6 hgrow6 hat6; have q6' := HOX.out.q.cell 0; rw [HL1.out] at q6'; have q6 : w6.cell? ⟨w.heap.size, 0, none⟩ = some (.slice a' L1 c') := q6'; clear q6'; obtain ⟨ai', ci', hvi'⟩ := own_slice HOX.out.oi; rw [HI1.out] at hvi'; subst hvi'))
            go_roundw
            case rel => exact ⟨k + 1, ins ++ [(Pst.mk dev pa n v)], outs, l ++ [(Pst.mk dev pa n v)], a', c', by omega, by go_num, HSX.out, HIl.out, HOX.out, HBX.out⟩
            case measure => simp [intOf]; omega
          · rw [show errB (pushE l (Pst.mk dev pa n v)) = .iface 61 (.int .i64 (pushE l (Pst.mk dev pa n v) : Nat)) from by unfold errB; rw [if_neg hE]]
            generalize pushE l (Pst.mk dev pa n v) = kE at *
            generalize (pushL l (Pst.mk dev pa n v)).length = kL at *
            have HOX := HOF
            have HBX := HBF
            have HSX := HS
            have HIl : Hid (ins.length ≤ k + 1) := hide (by omega)
            have q5 : F.cell? ⟨w.heap.size, 0, none⟩ = some (.slice a L cap) := HLn.out ▸ HOF.out.q.cell 0
            have e17 : ((In : Int) != (On : Int) + (L : Int)) = false := by have := HIO.out; simp; omega
            have e18 : ¬ 8 < (L : Int) := by omega
            go_wp2
            go_roundw
            case rel => exact ⟨k + 1, ins, outs, l, a, cap, by omega, by go_num, HSX.out, HIl.out, HOX.out, HBX.out⟩
            case measure => simp [intOf]; omega
      · obtain ⟨F, hF⟩ : ∃ F, w2.setCell ⟨wr.heap.size, 0, none⟩ (.slice a' (pushL l ⟨dev, pa, n, v⟩).length c') = F := ⟨_, rfl⟩
        have BF : Below wr.heap.size wr F := hF ▸ HB2.out.setCell (p := ⟨wr.heap.size, 0, none⟩) (Nat.le_refl _) _
        have R9 : RowAt F wr.heap.size #[.slice a' (pushL l ⟨dev, pa, n, v⟩).length c'] 42 := hF ▸ HRZ.out.put 0 _
        have QF : QAt F a' (pushL l ⟨dev, pa, n, v⟩) := hF ▸ way_q (u0 := .slice none 0 0) HQ2.out HRZ.out
        rw [hF]
        clear hF z0 z1
        have HOF := hide (HO.out.bl BF)
        have HBF := hide (below_bl rfl HB.out BF)
        have HR9 := hide R9
        have HQF := hide QF
        clear R9 QF BF HRZ HB2 HX2 hB2 HQ2
        have HCL : Hid (pushL l (Pst.mk dev pa n v) = l ++ [(Pst.mk dev pa n v)] → (l ++ [(Pst.mk dev pa n v)]).length ≤ c') := hide (fun e => e ▸ e1)
        have hlb : b < w.heap.size := hblt
        clear e1
        by_cases hm : k < M
        · obtain ⟨bz, oz, rfl, hz⟩ := HZ.out k hm
          have t3 : (k : Int) < (M : Nat) := by omega
          cases hzk : z k with
          | false =>
            rw [hzk] at hz
            have HZk := hide hz
            clear hz hzk
            by_cases hE : pushE l (Pst.mk dev pa n v) = 0
            · obtain ⟨hL', hck⟩ := pushE_zero hE
              rw [hE, hL']
              rw [hL'] at HR9 HQF
              rw [show errB 0 = Value.nilIface from rfl]
              obtain ⟨L1, hL1⟩ : ∃ L1, (l ++ [(Pst.mk dev pa n v)]).length = L1 := ⟨_, rfl⟩
              have hL1' : L1 = L + 1 := by rw [← hL1, List.length_append, HLn.out]; rfl
              rw [hL1] at HR9 ⊢
              have r9 : F.cell? ⟨wr.heap.size, 0, none⟩ = some (.slice a' L1 c') := HR9.out.cell 0
              have q5 : F.cell? ⟨w.heap.size, 0, none⟩ = some (.slice a L cap) := HLn.out ▸ HOF.out.q.cell 0
              have f5 : F.frozen? ⟨w.heap.size, 0, none⟩ = false := HOF.out.q.thaw 0
              have y0 : ∀ u, (F.setCell ⟨w.heap.size, 0, none⟩ u).cell? ⟨b, o + k * 4, none⟩ = some (.int .i64 dev) := fun u => (World.cell?_setCell_far _ _ _ _ (by show w.heap.size ≠ b; omega)).trans (cell_bl HBF.out HY0.out)
              have y1 : ∀ u, (F.setCell ⟨w.heap.size, 0, none⟩ u).cell? ⟨b, o + k * 4 + 1, none⟩ = some (.int .u32 (pa : Nat)) := fun u => (World.cell?_setCell_far _ _ _ _ (by show w.heap.size ≠ b; omega)).trans (cell_bl HBF.out HY1.out)
              have y2 : ∀ u, (F.setCell ⟨w.heap.size, 0, none⟩ u).cell? ⟨b, o + k * 4 + 2, none⟩ = some (.int .i64 n) := fun u => (World.cell?_setCell_far _ _ _ _ (by show w.heap.size ≠ b; omega)).trans (cell_bl HBF.out HY2.out)
              have y3 : ∀ u, (F.setCell ⟨w.heap.size, 0, none⟩ u).cell? ⟨b, o + k * 4 + 3, none⟩ = some (.int .u32 (v : Nat)) := fun u => (World.cell?_setCell_far _ _ _ _ (by show w.heap.size ≠ b; omega)).trans (cell_bl HBF.out HY3.out)
              have HOX0 : Hid (OrdAt w.heap.size (F.setCell ⟨w.heap.size, 0, none⟩ (.slice a' L1 c')) (.slice ai In ci) (.slice ao On co) a' c' ins outs (l ++ [(Pst.mk dev pa n v)])) := by
                have := OrdAt.setq HO.out HOF.out hck HQF.out (HCL.out hL') (fun g o s e => HF2.out g o s e)
                rw [hL1] at this
                exact hide this
              have HBX0 : Hid (Below w.heap.size w (F.setCell ⟨w.heap.size, 0, none⟩ (.slice a' L1 c'))) := hide (HBF.out.setCell (p := ⟨w.heap.size, 0, none⟩) (Nat.le_refl _) _)
              have HL1 := hide hL1
              have HSz : Hid ((F.setCell ⟨w.heap.size, 0, none⟩ (.slice a' L1 c')).heap.size = F.heap.size) := hide (by simp [World.setCell])
              obtain ⟨I1, hI1⟩ : ∃ I1, (ins ++ [(Pst.mk dev pa n v)]).length = I1 := ⟨_, rfl⟩
              have hI1' : I1 = In + 1 := by rw [← hI1, List.length_append, HIn.out]; rfl
              have HI1 := hide hI1
              have HSX : Hid (ins ++ [(Pst.mk dev pa n v)] = outs ++ (l ++ [(Pst.mk dev pa n v)])) := hide (by rw [HS.out, List.append_assoc])
              have e17 : ((I1 : Int) != (On : Int) + (L1 : Int)) = false := by have := HIO.out; simp; omega
              have hck8 : L1 ≤ 8 := hL1 ▸ (by have hc' := hck; unfold checkQ at hc'; rw [Bool.and_eq_true] at hc'; exact of_decide_eq_true hc'.1)
              have e18 : ¬ 8 < (L1 : Int) := by omega
              have HIl : Hid ((ins ++ [(Pst.mk dev pa n v)]).length ≤ k + 1) := hide (by rw [List.length_append]; simp; omega)
              clear hL1 hI1 hck hE hL' hL1' hI1'
              go_wp2_with (first | (at_builtin; refine wpList_append_own_at _ rfl _ _ 40 rfl (w.heap.size + 1) 46 i0 (.agg #[.int .i64 0, .int .u32 0, .int .i64 0, .int .u32 0]) 4 32 Tryd.underlying40 hi hq0 hq1 hq2 rfl (by decide) _ _ _ rfl (HOX0.out.oi.alloc _) ⟨_, 0, none⟩ 1 1 [.int .i64 dev, .int .u32 (pa : Nat), .int .i64 n, .int .u32 (v : Nat)] rfl rfl (cell_four_at HSz.out _ _ _ _ _) (by intro u hu; simp at hu; rcases hu with rfl | rfl | rfl | rfl <;> rfl) (by unfold maxLen; omega) (by omega) (by have := HOF.out.q.lt; simp; omega) ?_; intro v6 w6 hown6 hgrow6 hnil6 hat6; clear hnil6; have HOX := hide (OrdAt.appI (HOX0.out.bl (below_one _ (.cells #[.int .i64 dev, .int .u32 (pa : Nat), .int .i64 n, .int .u32 (v : Nat)] 46))) (Pst.mk dev pa n v) HPk.out hown6 hgrow6 hat6); have HBX := hide ((HBX0.out.alloc HBX0.out.size (.cells #[.int .i64 dev, .int .u32 (pa : Nat), .int .i64 n, .int .u32 (v : Nat)] 46)).grown hgrow6 (by have := HBF.out.size; simp; omega) (fun j hj => by have := (own_lt HOX0.out.oi hj).1; omega)); clear hown6 hgrow6 hat6; have q6' := HOX.out.q.cell 0; rw [HL1.out] at q6'; have q6 : w6.cell? ⟨w.heap.size, 0, none⟩ = some (.slice a' L1 c') := q6'; clear q6'; obtain ⟨ai', ci', hvi'⟩ := own_slice HOX.out.oi; rw [HI1.out] at hvi'; subst hvi'; have m0 := cell_bl HBX.out HZk.out))
              go_roundw
              case rel => exact ⟨k + 1, ins ++ [(Pst.mk dev pa n v)], outs, l ++ [(Pst.mk dev pa n v)], a', c', by omega, by go_num, HSX.out, HIl.out, HOX.out, HBX.out⟩
              case measure => simp [intOf]; omega
            · rw [show errB (pushE l (Pst.mk dev pa n v)) = .iface 61 (.int .i64 (pushE l (Pst.mk dev pa n v) : Nat)) from by unfold errB; rw [if_neg hE]]
              generalize pushE l (Pst.mk dev pa n v) = kE at *
              generalize (pushL l (Pst.mk dev pa n v)).length = kL at *
              have HOX := HOF
              have HBX := HBF
              have HSX := HS
              have HIl : Hid (ins.length ≤ k + 1) := hide (by omega)
              have q5 : F.cell? ⟨w.heap.size, 0, none⟩ = some (.slice a L cap) := HLn.out ▸ HOF.out.q.cell 0
              have e17 : ((In : Int) != (On : Int) + (L : Int)) = false := by have := HIO.out; simp; omega
              have e18 : ¬ 8 < (L : Int) := by omega
              have m0 := cell_bl HBF.out HZk.out
              go_wp2
              go_roundw
              case rel => exact ⟨k + 1, ins, outs, l, a, cap, by omega, by go_num, HSX.out, HIl.out, HOX.out, HBX.out⟩
              case measure => simp [intOf]; omega
          | true =>
            rw [hzk] at hz
            have HZk := hide hz
            clear hz hzk
            by_cases hE : pushE l (Pst.mk dev pa n v) = 0
            · obtain ⟨hL', hck⟩ := pushE_zero hE
              rw [hE, hL']
              rw [hL'] at HR9 HQF
              rw [show errB 0 = Value.nilIface from rfl]
              obtain ⟨L1, hL1⟩ : ∃ L1, (l ++ [(Pst.mk dev pa n v)]).length = L1 := ⟨_, rfl⟩
              have hL1' : L1 = L + 1 := by rw [← hL1, List.length_append, HLn.out]; rfl
              rw [hL1] at HR9 ⊢
              have r9 : F.cell? ⟨wr.heap.size, 0, none⟩ = some (.slice a' L1 c') := HR9.out.cell 0
              have q5 : F.cell? ⟨w.heap.size, 0, none⟩ = some (.slice a L cap) := HLn.out ▸ HOF.out.q.cell 0
              have f5 : F.frozen? ⟨w.heap.size, 0, none⟩ = false := HOF.out.q.thaw 0
              have y0 : ∀ u, (F.setCell ⟨w.heap.size, 0, none⟩ u).cell? ⟨b, o + k * 4, none⟩ = some (.int .i64 dev) := fun u => (World.cell?_setCell_far _ _ _ _ (by show w.heap.size ≠ b; omega)).trans (cell_bl HBF.out HY0.out)
              have y1 : ∀ u, (F.setCell ⟨w.heap.size, 0, none⟩ u).cell? ⟨b, o + k * 4 + 1, none⟩ = some (.int .u32 (pa : Nat)) := fun u => (World.cell?_setCell_far _ _ _ _ (by show w.heap.size ≠ b; omega)).trans (cell_bl HBF.out HY1.out)
              have y2 : ∀ u, (F.setCell ⟨w.heap.size, 0, none⟩ u).cell? ⟨b, o + k * 4 + 2, none⟩ = some (.int .i64 n) := fun u => (World.cell?_setCell_far _ _ _ _ (by show w.heap.size ≠ b; omega)).trans (cell_bl HBF.out HY2.out)
              have y3 : ∀ u, (F.setCell ⟨w.heap.size, 0, none⟩ u).cell? ⟨b, o + k * 4 + 3, none⟩ = some (.int .u32 (v : Nat)) := fun u => (World.cell?_setCell_far _ _ _ _ (by show w.heap.size ≠ b; omega)).trans (cell_bl HBF.out HY3.out)
              have HOX0 : Hid (OrdAt w.heap.size (F.setCell ⟨w.heap.size, 0, none⟩ (.slice a' L1 c')) (.slice ai In ci) (.slice ao On co) a' c' ins outs (l ++ [(Pst.mk dev pa n v)])) := by
                have := OrdAt.setq HO.out HOF.out hck HQF.out (HCL.out hL') (fun g o s e => HF2.out g o s e)
                rw [hL1] at this
                exact hide this
              have HBX0 : Hid (Below w.heap.size w (F.setCell ⟨w.heap.size, 0, none⟩ (.slice a' L1 c'))) := hide (HBF.out.setCell (p := ⟨w.heap.size, 0, none⟩) (Nat.le_refl _) _)
              have HL1 := hide hL1
              have HSz : Hid ((F.setCell ⟨w.heap.size, 0, none⟩ (.slice a' L1 c')).heap.size = F.heap.size) := hide (by simp [World.setCell])
              obtain ⟨I1, hI1⟩ : ∃ I1, (ins ++ [(Pst.mk dev pa n v)]).length = I1 := ⟨_, rfl⟩
              have hI1' : I1 = In + 1 := by rw [← hI1, List.length_append, HIn.out]; rfl
              have HI1 := hide hI1
              have HSX : Hid (ins ++ [(Pst.mk dev pa n v)] = outs ++ (l ++ [(Pst.mk dev pa n v)])) := hide (by rw [HS.out, List.append_assoc])
              have e17 : ((I1 : Int) != (On : Int) + (L1 : Int)) = false := by have := HIO.out; simp; omega
              have hck8 : L1 ≤ 8 := hL1 ▸ (by have hc' := hck; unfold checkQ at hc'; rw [Bool.and_eq_true] at hc'; exact of_decide_eq_true hc'.1)
              have e18 : ¬ 8 < (L1 : Int) := by omega
              have HIl : Hid ((ins ++ [(Pst.mk dev pa n v)]).length ≤ k + 1) := hide (by rw [List.length_append]; simp; omega)
              clear hL1 hI1 hck hE hL' hL1' hI1'
              obtain ⟨p1, t1, hpt⟩ : ∃ p1 t1, l ++ [(Pst.mk dev pa n v)] = p1 :: t1 := by cases l with
                | nil => exact ⟨_, _, rfl⟩
                | cons x r => exact ⟨_, _, rfl⟩
              obtain ⟨T1, hT1⟩ : ∃ T1, t1.length = T1 := ⟨_, rfl⟩
              have hTL : L1 = T1 + 1 := by
                have hh := congrArg List.length hpt
                rw [HL1.out] at hh
                rw [hh, ← hT1]; rfl
              have HPop : Hid (∀ (X : World) (vi : Value), OrdAt w.heap.size X vi (.slice ao On co) a' c' (ins ++ [(Pst.mk dev pa n v)]) outs (p1 :: t1) → AreasAt X → Calls Tryd.prog 17 #[.agg #[.slice a' L1 c']] X fun e w2 => ∃ a' c, e = .returned (.tuple #[.agg #[.slice a' T1 c], .agg #[.int .i64 p1.dev, .int .u32 (p1.at' : Nat), .int .i64 p1.n, .int .u32 (p1.v : Nat)], .nilIface]) ∧ T1 ≤ c ∧ QAt w2 a' t1 ∧ (∀ g o s, a' = some ⟨g, o, s⟩ → X.heap.size ≤ g) ∧ Below X.heap.size X w2) := by
                refine hide (fun X vi h hA => ?_)
                have := pop_held h hA
                rw [hT1, show (p1 :: t1).length = L1 by rw [hTL, ← hT1]; rfl] at this
                exact this
              have HTL := hide hTL
              have HT1 := hide hT1
              have HPT := hide hpt
              clear hT1 hTL hpt
              go_wp2_with (first | (at_builtin; refine wpList_append_own_at _ rfl _ _ 40 rfl (w.heap.size + 1) 46 i0 (.agg #[.int .i64 0, .int .u32 0, .int .i64 0, .int .u32 0]) 4 32 Tryd.underlying40 hi hq0 hq1 hq2 rfl (by decide) _ _ _ rfl (HOX0.out.oi.alloc _) ⟨_, 0, none⟩ 1 1 [.int .i64 dev, .int .u32 (pa : Nat), .int .i64 n, .int .u32 (v : Nat)] rfl rfl (cell_four_at HSz.out _ _ _ _ _) (by intro u hu; simp at hu; rcases hu with rfl | rfl | rfl | rfl <;> rfl) (by unfold maxLen; omega) (by omega) (by have := HOF.out.q.lt; simp; omega) ?_; intro v6 w6 hown6 hgrow6 hnil6 hat6; clear hnil6; have HOX := hide (OrdAt.appI (HOX0.out.bl (below_one _ (.cells #[.int .i64 dev, .int .u32 (pa : Nat), .int .i64 n, .int .u32 (v : Nat)] 46))) (Pst.mk dev pa n v) HPk.out hown6 hgrow6 hat6); have HBX := hide ((HBX0.out.alloc HBX0.out.size (.cells #[.int .i64 dev, .int .u32 (pa : Nat), .int .i64 n, .int .u32 (v : Nat)] 46)).grown hgrow6 (by have := HBF.out.size; simp; omega) (fun j hj => by have := (own_lt HOX0.out.oi hj).1; omega)); clear hown6 hgrow6 hat6; have q6' := HOX.out.q.cell 0; rw [HL1.out] at q6'; have q6 : w6.cell? ⟨w.heap.size, 0, none⟩ = some (.slice a' L1 c') := q6'; clear q6'; obtain ⟨ai', ci', hvi'⟩ := own_slice HOX.out.oi; rw [HI1.out] at hvi'; subst hvi'; have m0 := cell_bl HBX.out HZk.out; rw [HPT.out] at HOX) | (go_at_call 17; refine (HPop.out _ _ HOX.out (HA.out.bl HBX.out)).mono ?_; rintro e w7 ⟨a7, c7, rfl, g1, g2, g3, g4⟩; have HQ7 := hide g2; have HF7 := hide g3; have HX7 := hide g4; have HB7 := hide (below_bl rfl HBX.out g4); have hc7 := g1; clear g1 g2 g3 g4))
              obtain ⟨Y, hY⟩ : ∃ Y, (w7.alloc (.cells #[.slice a7 T1 c7] 42)).alloc (.cells #[.int .i64 p1.dev, .int .u32 (p1.at' : Nat), .int .i64 p1.n, .int .u32 (p1.v : Nat)] 46) = Y := ⟨_, rfl⟩
              have R11 : Hid (RowAt Y w7.heap.size #[.slice a7 T1 c7] 42) := hide (hY ▸ (RowAt.new w7 _ _ _ rfl).al _)
              have R12 : Hid (RowAt Y (w7.heap.size + 1) #[.int .i64 p1.dev, .int .u32 (p1.at' : Nat), .int .i64 p1.n, .int .u32 (p1.v : Nat)] 46) := hide (hY ▸ RowAt.new _ _ _ _ (by simp))
              have hYb : Below w7.heap.size w7 Y := hY ▸ below_two _ _ _
              have HOY := hide ((HOX.out.bl HX7.out).bl hYb)
              have HBY := hide (below_bl rfl HB7.out hYb)
              have HQY := hide (HQ7.out.bl hYb)
              rw [hY]
              clear hY hYb
              have qY : Y.cell? ⟨w.heap.size, 0, none⟩ = some (.slice a' L1 c') := by
                have := HOY.out.q.cell 0
                rw [show (p1 :: t1).length = L1 by rw [HTL.out, ← HT1.out]; rfl] at this
                exact this
              have tL0 : 0 < L1 := by have := HTL.out; omega
              go_quiet (fail)
              obtain ⟨Z, hZ⟩ : ∃ Z, Y.drewN nq = Z := ⟨_, rfl⟩
              have hZb : Below Y.heap.size Y Z := hZ ▸ below_dn (Below.refl _ _) _
              have HOZ := hide (HOY.out.bl hZb)
              have HBZ := hide (below_bl rfl HBY.out hZb)
              have HQZ := hide (HQY.out.bl hZb)
              have R11Z := hide (R11.out.bl hZb)
              have R12Z := hide (R12.out.bl hZb)
              rw [hZ]
              clear hZ hZb qY
              have hw7 : w.heap.size < w7.heap.size := (HOX.out.bl HX7.out).q.lt
              have r11 : Z.cell? ⟨w7.heap.size, 0, none⟩ = some (.slice a7 T1 c7) := R11Z.out.cell 0
              have f5 : Z.frozen? ⟨w.heap.size, 0, none⟩ = false := HOZ.out.q.thaw 0
              have q5 : Z.cell? ⟨w.heap.size, 0, none⟩ = some (.slice a' L1 c') := by
                have := HOZ.out.q.cell 0
                rw [show (p1 :: t1).length = L1 by rw [HTL.out, ← HT1.out]; rfl] at this
                exact this
              have x0 : ∀ u, (Z.setCell ⟨w.heap.size, 0, none⟩ u).cell? ⟨w7.heap.size + 1, 0, none⟩ = some (.int .i64 p1.dev) := fun u => (World.cell?_setCell_far _ _ _ _ (by show w.heap.size ≠ w7.heap.size + 1; omega)).trans (R12Z.out.cell 0)
              have x1 : ∀ u, (Z.setCell ⟨w.heap.size, 0, none⟩ u).cell? ⟨w7.heap.size + 1, 1, none⟩ = some (.int .u32 (p1.at' : Nat)) := fun u => (World.cell?_setCell_far _ _ _ _ (by show w.heap.size ≠ w7.heap.size + 1; omega)).trans (R12Z.out.cell 1)
              have x2 : ∀ u, (Z.setCell ⟨w.heap.size, 0, none⟩ u).cell? ⟨w7.heap.size + 1, 2, none⟩ = some (.int .i64 p1.n) := fun u => (World.cell?_setCell_far _ _ _ _ (by show w.heap.size ≠ w7.heap.size + 1; omega)).trans (R12Z.out.cell 2)
              have x3 : ∀ u, (Z.setCell ⟨w.heap.size, 0, none⟩ u).cell? ⟨w7.heap.size + 1, 3, none⟩ = some (.int .u32 (p1.v : Nat)) := fun u => (World.cell?_setCell_far _ _ _ _ (by show w.heap.size ≠ w7.heap.size + 1; omega)).trans (R12Z.out.cell 3)
              have HOW0 : Hid (OrdAt w.heap.size (Z.setCell ⟨w.heap.size, 0, none⟩ (.slice a7 T1 c7)) (.slice ai' I1 ci') (.slice ao On co) a7 c7 (ins ++ [(Pst.mk dev pa n v)]) outs t1) := by
                have := OrdAt.setq HOX.out HOZ.out (check_tail HOX.out.chk) HQZ.out (by rw [HT1.out]; exact hc7) HF7.out
                rw [HT1.out] at this
                exact hide this
              have HBW0 : Hid (Below w.heap.size w (Z.setCell ⟨w.heap.size, 0, none⟩ (.slice a7 T1 c7))) := hide (HBZ.out.setCell (p := ⟨w.heap.size, 0, none⟩) (Nat.le_refl _) _)
              have HSzZ : Hid ((Z.setCell ⟨w.heap.size, 0, none⟩ (.slice a7 T1 c7)).heap.size = Z.heap.size) := hide (by simp [World.setCell])
              obtain ⟨O1, hO1⟩ : ∃ O1, (outs ++ [p1]).length = O1 := ⟨_, rfl⟩
              have hO1' : O1 = On + 1 := by rw [← hO1, List.length_append, HOn.out]; rfl
              have HO1 := hide hO1
              have HSW : Hid (ins ++ [(Pst.mk dev pa n v)] = (outs ++ [p1]) ++ t1) := hide (by rw [HSX.out, HPT.out, List.append_assoc]; rfl)
              have hix : I1 = On + L1 := by have h17 := e17; simp at h17; omega
              have e17' : ((I1 : Int) != (O1 : Int) + (T1 : Int)) = false := by have := HTL.out; simp; omega
              have e18' : ¬ 8 < (T1 : Int) := by have := HTL.out; omega
              have hO161 : O1 ≤ 101 := by omega
              have hT8 : T1 ≤ 8 := by have := HTL.out; omega
              have hout : outs.length ≤ 100 := by rw [HOn.out]; omega
              clear hO1 hO1' hix e17 e18
              go_wp2_with (first | (at_builtin; refine wpList_append_own_at _ rfl _ _ 40 rfl (w.heap.size + 1) 46 i0 (.agg #[.int .i64 0, .int .u32 0, .int .i64 0, .int .u32 0]) 4 32 Tryd.underlying40 hi hq0 hq1 hq2 rfl (by decide) _ _ _ rfl (HOW0.out.oo.alloc _) ⟨_, 0, none⟩ 1 1 [.int .i64 p1.dev, .int .u32 (p1.at' : Nat), .int .i64 p1.n, .int .u32 (p1.v : Nat)] rfl rfl (cell_four_at HSzZ.out _ _ _ _ _) (by intro u hu; simp at hu; rcases hu with rfl | rfl | rfl | rfl <;> rfl) (by unfold maxLen; omega) (by omega) (by have := HOZ.out.q.lt; simp; omega) ?_; intro v8 w8 hown8 hgrow8 hnil8 hat8; clear hnil8; have HOW := hide (OrdAt.appO (HOW0.out.bl (below_one _ (.cells #[.int .i64 p1.dev, .int .u32 (p1.at' : Nat), .int .i64 p1.n, .int .u32 (p1.v : Nat)] 46))) p1 hown8 hgrow8 hat8); have HBW := hide ((HBW0.out.alloc HBW0.out.size (.cells #[.int .i64 p1.dev, .int .u32 (p1.at' : Nat), .int .i64 p1.n, .int .u32 (p1.v : Nat)] 46)).grown hgrow8 (by have := HBZ.out.size; simp; omega) (fun j hj => by have := (own_lt HOW0.out.oo hj).1; omega)); clear hown8 hgrow8 hat8; have q8' := HOW.out.q.cell 0; rw [HT1.out] at q8'; have q8 : w8.cell? ⟨w.heap.size, 0, none⟩ = some (.slice a7 T1 c7) := q8'; clear q8'; obtain ⟨ao', co', hvo'⟩ := own_slice HOW.out.oo; rw [HO1.out] at hvo'; subst hvo'))
              go_roundw
              case rel => exact ⟨k + 1, ins ++ [(Pst.mk dev pa n v)], outs ++ [p1], t1, a7, c7, by omega, by go_num, HSW.out, HIl.out, HOW.out, HBW.out⟩
              case measure => simp [intOf]; omega
            · rw [show errB (pushE l (Pst.mk dev pa n v)) = .iface 61 (.int .i64 (pushE l (Pst.mk dev pa n v) : Nat)) from by unfold errB; rw [if_neg hE]]
              generalize pushE l (Pst.mk dev pa n v) = kE at *
              generalize (pushL l (Pst.mk dev pa n v)).length = kL at *
              have HOX := HOF
              have HBX := HBF
              have HSX := HS
              have HIl : Hid (ins.length ≤ k + 1) := hide (by omega)
              have q5 : F.cell? ⟨w.heap.size, 0, none⟩ = some (.slice a L cap) := HLn.out ▸ HOF.out.q.cell 0
              have e17 : ((In : Int) != (On : Int) + (L : Int)) = false := by have := HIO.out; simp; omega
              have e18 : ¬ 8 < (L : Int) := by omega
              have m0 := cell_bl HBF.out HZk.out
              rcases hl0 : l with _ | ⟨p1, t1⟩
              · have hL0 : L = 0 := by rw [← HLn.out, hl0]; rfl
                subst hL0
                rw [hl0] at HOX HSX
                have e17z : ((In : Int) != (On : Int)) = false := by have := HIO.out; simp; omega
                have HPop0 := hide (pop_void HOX.out (HA.out.bl HBX.out))
                clear hl0
                go_wp2_with (first | (go_at_call 17; refine HPop0.out.mono ?_; rintro e w7 ⟨a7, c7, rfl, g4⟩; have HX7 := hide g4; have HB7 := hide (below_bl rfl HBX.out g4); clear g4))
                obtain ⟨Y, hY⟩ : ∃ Y, (w7.alloc (.cells #[.slice a7 0 c7] 42)).alloc (.cells #[.int .i64 0, .int .u32 0, .int .i64 0, .int .u32 0] 46) = Y := ⟨_, rfl⟩
                have hYb : Below w7.heap.size w7 Y := hY ▸ below_two _ _ _
                have HOY := hide ((HOX.out.bl HX7.out).bl hYb)
                have HBY := hide (below_bl rfl HB7.out hYb)
                rw [hY]
                clear hY hYb q5
                have qY : Y.cell? ⟨w.heap.size, 0, none⟩ = some (.slice a 0 cap) := HOY.out.q.cell 0
                go_quiet (fail)
                obtain ⟨Z, hZ⟩ : ∃ Z, Y.drewN nq = Z := ⟨_, rfl⟩
                have hZb : Below Y.heap.size Y Z := hZ ▸ below_dn (Below.refl _ _) _
                have HOZ := hide (HOY.out.bl hZb)
                have HBZ := hide (below_bl rfl HBY.out hZb)
                rw [hZ]
                clear hZ hZb qY
                have qZ : Z.cell? ⟨w.heap.size, 0, none⟩ = some (.slice a 0 cap) := HOZ.out.q.cell 0
                go_wp2
                go_roundw
                case rel => exact ⟨k + 1, ins, outs, [], a, cap, by omega, by go_num, HSX.out, HIl.out, HOZ.out, HBZ.out⟩
                case measure => simp [intOf]; omega
              · have hpt : l = p1 :: t1 := hl0
                clear hl0
                rw [hpt] at HOX
                obtain ⟨T1, hT1⟩ : ∃ T1, t1.length = T1 := ⟨_, rfl⟩
                have hTL : L = T1 + 1 := by
                  have hh := congrArg List.length hpt
                  rw [HLn.out] at hh
                  rw [hh, ← hT1]; rfl
                have HPop : Hid (∀ (X : World) (vi : Value), OrdAt w.heap.size X vi (.slice ao On co) a cap (ins) outs (p1 :: t1) → AreasAt X → Calls Tryd.prog 17 #[.agg #[.slice a L cap]] X fun e w2 => ∃ a' c, e = .returned (.tuple #[.agg #[.slice a' T1 c], .agg #[.int .i64 p1.dev, .int .u32 (p1.at' : Nat), .int .i64 p1.n, .int .u32 (p1.v : Nat)], .nilIface]) ∧ T1 ≤ c ∧ QAt w2 a' t1 ∧ (∀ g o s, a' = some ⟨g, o, s⟩ → X.heap.size ≤ g) ∧ Below X.heap.size X w2) := by
                  refine hide (fun X vi h hA => ?_)
                  have := pop_held h hA
                  rw [hT1, show (p1 :: t1).length = L by rw [hTL, ← hT1]; rfl] at this
                  exact this
                have HTL := hide hTL
                have HT1 := hide hT1
                have HPT := hide hpt
                clear hT1 hTL hpt
                go_wp2_with (first | (go_at_call 17; refine (HPop.out _ _ HOX.out (HA.out.bl HBX.out)).mono ?_; rintro e w7 ⟨a7, c7, rfl, g1, g2, g3, g4⟩; have HQ7 := hide g2; have HF7 := hide g3; have HX7 := hide g4; have HB7 := hide (below_bl rfl HBX.out g4); have hc7 := g1; clear g1 g2 g3 g4))
                obtain ⟨Y, hY⟩ : ∃ Y, (w7.alloc (.cells #[.slice a7 T1 c7] 42)).alloc (.cells #[.int .i64 p1.dev, .int .u32 (p1.at' : Nat), .int .i64 p1.n, .int .u32 (p1.v : Nat)] 46) = Y := ⟨_, rfl⟩
                have R11 : Hid (RowAt Y w7.heap.size #[.slice a7 T1 c7] 42) := hide (hY ▸ (RowAt.new w7 _ _ _ rfl).al _)
                have R12 : Hid (RowAt Y (w7.heap.size + 1) #[.int .i64 p1.dev, .int .u32 (p1.at' : Nat), .int .i64 p1.n, .int .u32 (p1.v : Nat)] 46) := hide (hY ▸ RowAt.new _ _ _ _ (by simp))
                have hYb : Below w7.heap.size w7 Y := hY ▸ below_two _ _ _
                have HOY := hide ((HOX.out.bl HX7.out).bl hYb)
                have HBY := hide (below_bl rfl HB7.out hYb)
                have HQY := hide (HQ7.out.bl hYb)
                rw [hY]
                clear hY hYb
                have qY : Y.cell? ⟨w.heap.size, 0, none⟩ = some (.slice a L cap) := by
                  have := HOY.out.q.cell 0
                  rw [show (p1 :: t1).length = L by rw [HTL.out, ← HT1.out]; rfl] at this
                  exact this
                have tL0 : 0 < L := by have := HTL.out; omega
                go_quiet (fail)
                obtain ⟨Z, hZ⟩ : ∃ Z, Y.drewN nq = Z := ⟨_, rfl⟩
                have hZb : Below Y.heap.size Y Z := hZ ▸ below_dn (Below.refl _ _) _
                have HOZ := hide (HOY.out.bl hZb)
                have HBZ := hide (below_bl rfl HBY.out hZb)
                have HQZ := hide (HQY.out.bl hZb)
                have R11Z := hide (R11.out.bl hZb)
                have R12Z := hide (R12.out.bl hZb)
                rw [hZ]
                clear hZ hZb qY
                have hw7 : w.heap.size < w7.heap.size := (HOX.out.bl HX7.out).q.lt
                have r11 : Z.cell? ⟨w7.heap.size, 0, none⟩ = some (.slice a7 T1 c7) := R11Z.out.cell 0
                have f5 : Z.frozen? ⟨w.heap.size, 0, none⟩ = false := HOZ.out.q.thaw 0
                have q5 : Z.cell? ⟨w.heap.size, 0, none⟩ = some (.slice a L cap) := by
                  have := HOZ.out.q.cell 0
                  rw [show (p1 :: t1).length = L by rw [HTL.out, ← HT1.out]; rfl] at this
                  exact this
                have x0 : ∀ u, (Z.setCell ⟨w.heap.size, 0, none⟩ u).cell? ⟨w7.heap.size + 1, 0, none⟩ = some (.int .i64 p1.dev) := fun u => (World.cell?_setCell_far _ _ _ _ (by show w.heap.size ≠ w7.heap.size + 1; omega)).trans (R12Z.out.cell 0)
                have x1 : ∀ u, (Z.setCell ⟨w.heap.size, 0, none⟩ u).cell? ⟨w7.heap.size + 1, 1, none⟩ = some (.int .u32 (p1.at' : Nat)) := fun u => (World.cell?_setCell_far _ _ _ _ (by show w.heap.size ≠ w7.heap.size + 1; omega)).trans (R12Z.out.cell 1)
                have x2 : ∀ u, (Z.setCell ⟨w.heap.size, 0, none⟩ u).cell? ⟨w7.heap.size + 1, 2, none⟩ = some (.int .i64 p1.n) := fun u => (World.cell?_setCell_far _ _ _ _ (by show w.heap.size ≠ w7.heap.size + 1; omega)).trans (R12Z.out.cell 2)
                have x3 : ∀ u, (Z.setCell ⟨w.heap.size, 0, none⟩ u).cell? ⟨w7.heap.size + 1, 3, none⟩ = some (.int .u32 (p1.v : Nat)) := fun u => (World.cell?_setCell_far _ _ _ _ (by show w.heap.size ≠ w7.heap.size + 1; omega)).trans (R12Z.out.cell 3)
                have HOW0 : Hid (OrdAt w.heap.size (Z.setCell ⟨w.heap.size, 0, none⟩ (.slice a7 T1 c7)) (.slice ai In ci) (.slice ao On co) a7 c7 (ins) outs t1) := by
                  have := OrdAt.setq HOX.out HOZ.out (check_tail HOX.out.chk) HQZ.out (by rw [HT1.out]; exact hc7) HF7.out
                  rw [HT1.out] at this
                  exact hide this
                have HBW0 : Hid (Below w.heap.size w (Z.setCell ⟨w.heap.size, 0, none⟩ (.slice a7 T1 c7))) := hide (HBZ.out.setCell (p := ⟨w.heap.size, 0, none⟩) (Nat.le_refl _) _)
                have HSzZ : Hid ((Z.setCell ⟨w.heap.size, 0, none⟩ (.slice a7 T1 c7)).heap.size = Z.heap.size) := hide (by simp [World.setCell])
                obtain ⟨O1, hO1⟩ : ∃ O1, (outs ++ [p1]).length = O1 := ⟨_, rfl⟩
                have hO1' : O1 = On + 1 := by rw [← hO1, List.length_append, HOn.out]; rfl
                have HO1 := hide hO1
                have HSW : Hid (ins = (outs ++ [p1]) ++ t1) := hide (by rw [HSX.out, HPT.out, List.append_assoc]; rfl)
                have hix : In = On + L := by have h17 := e17; simp at h17; omega
                have e17' : ((In : Int) != (O1 : Int) + (T1 : Int)) = false := by have := HTL.out; simp; omega
                have e18' : ¬ 8 < (T1 : Int) := by have := HTL.out; omega
                have hO161 : O1 ≤ 101 := by omega
                have hT8 : T1 ≤ 8 := by have := HTL.out; omega
                have hout : outs.length ≤ 100 := by rw [HOn.out]; omega
                clear hO1 hO1' hix e17 e18
                go_wp2_with (first | (at_builtin; refine wpList_append_own_at _ rfl _ _ 40 rfl (w.heap.size + 1) 46 i0 (.agg #[.int .i64 0, .int .u32 0, .int .i64 0, .int .u32 0]) 4 32 Tryd.underlying40 hi hq0 hq1 hq2 rfl (by decide) _ _ _ rfl (HOW0.out.oo.alloc _) ⟨_, 0, none⟩ 1 1 [.int .i64 p1.dev, .int .u32 (p1.at' : Nat), .int .i64 p1.n, .int .u32 (p1.v : Nat)] rfl rfl (cell_four_at HSzZ.out _ _ _ _ _) (by intro u hu; simp at hu; rcases hu with rfl | rfl | rfl | rfl <;> rfl) (by unfold maxLen; omega) (by omega) (by have := HOZ.out.q.lt; simp; omega) ?_; intro v8 w8 hown8 hgrow8 hnil8 hat8; clear hnil8; have HOW := hide (OrdAt.appO (HOW0.out.bl (below_one _ (.cells #[.int .i64 p1.dev, .int .u32 (p1.at' : Nat), .int .i64 p1.n, .int .u32 (p1.v : Nat)] 46))) p1 hown8 hgrow8 hat8); have HBW := hide ((HBW0.out.alloc HBW0.out.size (.cells #[.int .i64 p1.dev, .int .u32 (p1.at' : Nat), .int .i64 p1.n, .int .u32 (p1.v : Nat)] 46)).grown hgrow8 (by have := HBZ.out.size; simp; omega) (fun j hj => by have := (own_lt HOW0.out.oo hj).1; omega)); clear hown8 hgrow8 hat8; have q8' := HOW.out.q.cell 0; rw [HT1.out] at q8'; have q8 : w8.cell? ⟨w.heap.size, 0, none⟩ = some (.slice a7 T1 c7) := q8'; clear q8'; obtain ⟨ao', co', hvo'⟩ := own_slice HOW.out.oo; rw [HO1.out] at hvo'; subst hvo'))
                go_roundw
                case rel => exact ⟨k + 1, ins, outs ++ [p1], t1, a7, c7, by omega, by go_num, HSW.out, HIl.out, HOW.out, HBW.out⟩
                case measure => simp [intOf]; omega
        · have t3 : ¬ (k : Int) < (M : Nat) := by omega
          by_cases hE : pushE l (Pst.mk dev pa n v) = 0
          · obtain ⟨hL', hck⟩ := pushE_zero hE
            rw [hE, hL']
            rw [hL'] at HR9 HQF
            rw [show errB 0 = Value.nilIface from rfl]
            obtain ⟨L1, hL1⟩ : ∃ L1, (l ++ [(Pst.mk dev pa n v)]).length = L1 := ⟨_, rfl⟩
            have hL1' : L1 = L + 1 := by rw [← hL1, List.length_append, HLn.out]; rfl
            rw [hL1] at HR9 ⊢
            have r9 : F.cell? ⟨wr.heap.size, 0, none⟩ = some (.slice a' L1 c') := HR9.out.cell 0
            have q5 : F.cell? ⟨w.heap.size, 0, none⟩ = some (.slice a L cap) := HLn.out ▸ HOF.out.q.cell 0
            have f5 : F.frozen? ⟨w.heap.size, 0, none⟩ = false := HOF.out.q.thaw 0
            have y0 : ∀ u, (F.setCell ⟨w.heap.size, 0, none⟩ u).cell? ⟨b, o + k * 4, none⟩ = some (.int .i64 dev) := fun u => (World.cell?_setCell_far _ _ _ _ (by show w.heap.size ≠ b; omega)).trans (cell_bl HBF.out HY0.out)
            have y1 : ∀ u, (F.setCell ⟨w.heap.size, 0, none⟩ u).cell? ⟨b, o + k * 4 + 1, none⟩ = some (.int .u32 (pa : Nat)) := fun u => (World.cell?_setCell_far _ _ _ _ (by show w.heap.size ≠ b; omega)).trans (cell_bl HBF.out HY1.out)
            have y2 : ∀ u, (F.setCell ⟨w.heap.size, 0, none⟩ u).cell? ⟨b, o + k * 4 + 2, none⟩ = some (.int .i64 n) := fun u => (World.cell?_setCell_far _ _ _ _ (by show w.heap.size ≠ b; omega)).trans (cell_bl HBF.out HY2.out)
            have y3 : ∀ u, (F.setCell ⟨w.heap.size, 0, none⟩ u).cell? ⟨b, o + k * 4 + 3, none⟩ = some (.int .u32 (v : Nat)) := fun u => (World.cell?_setCell_far _ _ _ _ (by show w.heap.size ≠ b; omega)).trans (cell_bl HBF.out HY3.out)
            have HOX0 : Hid (OrdAt w.heap.size (F.setCell ⟨w.heap.size, 0, none⟩ (.slice a' L1 c')) (.slice ai In ci) (.slice ao On co) a' c' ins outs (l ++ [(Pst.mk dev pa n v)])) := by
              have := OrdAt.setq HO.out HOF.out hck HQF.out (HCL.out hL') (fun g o s e => HF2.out g o s e)
              rw [hL1] at this
              exact hide this
            have HBX0 : Hid (Below w.heap.size w (F.setCell ⟨w.heap.size, 0, none⟩ (.slice a' L1 c'))) := hide (HBF.out.setCell (p := ⟨w.heap.size, 0, none⟩) (Nat.le_refl _) _)
            have HL1 := hide hL1
            have HSz : Hid ((F.setCell ⟨w.heap.size, 0, none⟩ (.slice a' L1 c')).heap.size = F.heap.size) := hide (by simp [World.setCell])
            obtain ⟨I1, hI1⟩ : ∃ I1, (ins ++ [(Pst.mk dev pa n v)]).length = I1 := ⟨_, rfl⟩
            have hI1' : I1 = In + 1 := by rw [← hI1, List.length_append, HIn.out]; rfl
            have HI1 := hide hI1
            have HSX : Hid (ins ++ [(Pst.mk dev pa n v)] = outs ++ (l ++ [(Pst.mk dev pa n v)])) := hide (by rw [HS.out, List.append_assoc])
            have e17 : ((I1 : Int) != (On : Int) + (L1 : Int)) = false := by have := HIO.out; simp; omega
            have hck8 : L1 ≤ 8 := hL1 ▸ (by have hc' := hck; unfold checkQ at hc'; rw [Bool.and_eq_true] at hc'; exact of_decide_eq_true hc'.1)
            have e18 : ¬ 8 < (L1 : Int) := by omega
            have HIl : Hid ((ins ++ [(Pst.mk dev pa n v)]).length ≤ k + 1) := hide (by rw [List.length_append]; simp; omega)
            clear hL1 hI1 hck hE hL' hL1' hI1'
            go_wp2_with (first | (at_builtin; refine wpList_append_own_at _ rfl _ _ 40 rfl (w.heap.size + 1) 46 i0 (.agg #[.int .i64 0, .int .u32 0, .int .i64 0, .int .u32 0]) 4 32 Tryd.underlying40 hi hq0 hq1 hq2 rfl (by decide) _ _ _ rfl (HOX0.out.oi.alloc _) ⟨_, 0, none⟩ 1 1 [.int .i64 dev, .int .u32 (pa : Nat), .int .i64 n, .int .u32 (v : Nat)] rfl rfl (cell_four_at HSz.out _ _ _ _ _) (by intro u hu; simp at hu; rcases hu with rfl | rfl | rfl | rfl <;> rfl) (by unfold maxLen; omega) (by omega) (by have := HOF.out.q.lt; simp; omega) ?_; intro v6 w6 hown6 hgrow6 hnil6 hat6; clear hnil6; have HOX := hide (OrdAt.appI (HOX0.out.bl (below_one _ (.cells #[.int .i64 dev, .int .u32 (pa : Nat), .int .i64 n, .int .u32 (v : Nat)] 46))) (Pst.mk dev pa n v) HPk.out hown6 hgrow6 hat6); have HBX := hide ((HBX0.out.alloc HBX0.out.size (.cells #[.int .i64 dev, .int .u32 (pa : Nat), .int .i64 n, .int .u32 (v : Nat)] 46)).grown hgrow6 (by have := HBF.out.size; simp; omega) (fun j hj => by have := (own_lt HOX0.out.oi hj).1; omega)); clear hown6 hgrow6 hat6; have q6' := HOX.out.q.cell 0; rw [HL1.out] at q6'; have q6 : w6.cell? ⟨w.heap.size, 0, none⟩ = some (.slice a' L1 c') := q6'; clear q6'; obtain ⟨ai', ci', hvi'⟩ := own_slice HOX.out.oi; rw [HI1.out] at hvi'; subst hvi'))
            go_roundw
            case rel => exact ⟨k + 1, ins ++ [(Pst.mk dev pa n v)], outs, l ++ [(Pst.mk dev pa n v)], a', c', by omega, by go_num, HSX.out, HIl.out, HOX.out, HBX.out⟩
            case measure => simp [intOf]; omega
          · rw [show errB (pushE l (Pst.mk dev pa n v)) = .iface 61 (.int .i64 (pushE l (Pst.mk dev pa n v) : Nat)) from by unfold errB; rw [if_neg hE]]
            generalize pushE l (Pst.mk dev pa n v) = kE at *
            generalize (pushL l (Pst.mk dev pa n v)).length = kL at *
            have HOX := HOF
            have HBX := HBF
            have HSX := HS
            have HIl : Hid (ins.length ≤ k + 1) := hide (by omega)
            have q5 : F.cell? ⟨w.heap.size, 0, none⟩ = some (.slice a L cap) := HLn.out ▸ HOF.out.q.cell 0
            have e17 : ((In : Int) != (On : Int) + (L : Int)) = false := by have := HIO.out; simp; omega
            have e18 : ¬ 8 < (L : Int) := by omega
            go_wp2
            go_roundw
            case rel => exact ⟨k + 1, ins, outs, l, a, cap, by omega, by go_num, HSX.out, HIl.out, HOX.out, HBX.out⟩
            case measure => simp [intOf]; omega
    · have hcase : ¬ (k : Int) < (N : Nat) ∨ ((k : Int) < (N : Nat) ∧ ¬ (k : Int) < 60) := by omega
      clear hlt HI HZ
      rcases hcase with t1 | ⟨t1, t2⟩
      all_goals
        go_wp2
        go_loopw [14] (fun jv ws => ∃ j : Nat, j ≤ On ∧ jv = .int .i64 (j : Nat) ∧ Below wr.heap.size wr ws) (fun jv _ => On - (intOf jv).toNat)
        case atStart => exact ⟨0, Nat.zero_le _, rfl, Below.refl _ _⟩
        case round =>
          obtain ⟨j, hj, rfl, hBs⟩ := hrel
          have HBs := hide hBs
          by_cases hjl : j < On
          · have hol : j < outs.length := by rw [HOn.out]; exact hjl
            obtain ⟨p, hp⟩ : ∃ p, outs[j]? = some p := ⟨_, List.getElem?_eq_getElem hol⟩
            have hpi : ins[j]? = some p := by rw [HS.out, List.getElem?_append_left hol]; exact hp
            obtain ⟨go, rfl, hpo, hlo⟩ := own_posts HO.out.oo (fun e => by rw [e] at hol; simp at hol)
            obtain ⟨gi, rfl, hpi2, hli⟩ := own_posts HO.out.oi (fun e => by rw [e] at hpi; simp at hpi)
            obtain ⟨o0, o1, o2, o3⟩ := hpo.bl hBs j p hp
            obtain ⟨i0', i1, i2, i3⟩ := hpi2.bl hBs j p hpi
            have hji : j < In := by have := HIO.out; omega
            obtain ⟨dev, pa, n, v⟩ := p
            simp only at o0 o1 o2 o3 i0' i1 i2 i3
            rw [HOn.out] at hlo
            rw [HIn.out] at hli
            clear hp hpi hpo hpi2 hBs hol
            go_wp2
            go_quiet (fail)
            go_wp2
            go_roundw
            case rel => exact ⟨j + 1, by omega, by go_num, below_dn HBs.out _⟩
            case measure => simp [intOf]; omega
          · obtain rfl : j = On := by omega
            clear hBs
            go_wp2_with (go_at_call 11; refine (sure_any _ (HA.out.bl (below_bl rfl HB.out HBs.out)) (HH.out.below (below_bl rfl HB.out HBs.out))).mono ?_; rintro e w9 ⟨rfl, hx9⟩; have HB9 := hide (below_bl rfl (below_bl rfl HB.out HBs.out) hx9); clear hx9)
            go_ret
            exact ⟨rfl, HB9.out⟩
end Go.Proofs.YtcjfjkkkepjpmaaDoor
