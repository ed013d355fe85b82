/-
  What both sides' calls do, whatever act it is.
-/
import Derived.Test.YtficoenanfnijaaGreatDoorJMeStep4
import Derived.Test.YtficoenanfnijaaGreatDoorJMeStep5
import Derived.Test.YtficoenanfnijaaGreatDoorJMeNone
namespace Go.Proofs.YtficoenanfnijaaGreatDoor
open Go.RowKit
set_option linter.unusedVariables false
attribute [local go_sem ↓] Go.wp_at_zero Go.wp_at_succ

/-- Some bytes as a text; what is read at a place. -/
def txt (f : Nat → Nat) (a j : Nat) : ByteArray := ⟨((List.range j).map fun i => UInt8.ofNat (f (a + i))).toArray⟩
def textOf (f : Nat → Nat) (N a : Nat) (k : Int) : ByteArray := txt f a (if 0 ≤ k ∧ (a : Int) + k ≤ N then k.toNat else 0)
set_option maxHeartbeats 1000000 in
theorem rread_text {w : World} {N n : Nat} {f : Nat → Nat} {r : RP} (h : RefAt w N n f r) (a : Nat) (ha : a < 4294967296) (k : Int) (hk : k ≤ 9223372036854775807) (hk0 : -9223372036854775808 ≤ k) :
    Calls Tryz.prog 25 #[.agg (r.v N n), .int .u32 a, .int .i64 k] w fun e w' => (∃ v : Value, (∃ y : Int, e = .returned (.tuple #[v, .int .i64 y])) ∧ ∀ w2, Below w.heap.size w w2 → (convert 28 9 v).run Tryz.prog w2 = .ok (.string (textOf f N a k)) w2) ∧ Below w.heap.size w w' := by
  have hN9 : N ≤ 67108864 := by have := h.few; omega
  have hcp := h.capB
  unfold maxLen at hcp
  obtain ⟨hc1, hc2⟩ := hcp
  have HC : Hid (∀ j o : Nat, (o = a ∨ j = 0) → a + j ≤ N → ∀ c w2, Below w.heap.size w w2 → (convert 28 9 (.slice (some ⟨r.gB, o, none⟩) j c)).run Tryz.prog w2 = .ok (.string (txt f a j)) w2) := hide (fun j o ho hj c w2 hb => by
    have := conv_row (c := c) (f := fun i => f (o + i)) (fun i => h.small _) (fun i (hi : i < j) => (h.bl hb).bytes.cell (j := o + i) (by omega))
    rcases ho with rfl | rfl
    · exact this
    · exact this)
  have HCn : Hid (∀ w2, (convert 28 9 (.slice none 0 0)).run Tryz.prog w2 = .ok (.string (txt f a 0)) w2) := hide text_nil
  have HT0 : Hid (¬ (0 ≤ k ∧ (a : Int) + k ≤ N) → textOf f N a k = txt f a 0) := hide (fun hn => by unfold textOf; rw [if_neg hn])
  have HTj : Hid (∀ j : Nat, k = j → a + j ≤ N → textOf f N a k = txt f a j) := hide (fun j hj hn => by subst hj; unfold textOf; rw [if_pos (by omega)]; rfl)
  generalize textOf f N a k = T at *
  clear h
  unfold RP.v
  generalize r.gB = gB at *
  generalize r.gD = gD at *
  generalize r.cB = cB at *
  generalize r.cD = cD at *
  generalize r.wr = wr at *
  by_cases h0 : k < 0
  · go_enter Tryz.func25, Tryz.ntmps25
    go_wp2
    go_ret2
    exact ⟨⟨_, ⟨_, rfl⟩, fun w2 _ => by (rw [HT0.out (by omega)]; exact HCn.out w2)⟩, below_one _ _⟩
  · obtain ⟨j, rfl⟩ : ∃ j : Nat, k = j := ⟨k.toNat, by omega⟩
    have t0 : decide ((j : Int) < 0) = false := decide_eq_false (by omega)
    by_cases h1 : N < j
    · have t1 : decide ((N : Int) < (j : Int)) = true := decide_eq_true (by omega)
      have t1' : decide (N < j) = true := decide_eq_true (by omega)
      go_enter Tryz.func25, Tryz.ntmps25
      go_wp2
      go_ret2
      exact ⟨⟨_, ⟨_, rfl⟩, fun w2 _ => by (rw [HT0.out (by omega)]; exact HCn.out w2)⟩, below_one _ _⟩
    · have t1 : decide ((N : Int) < (j : Int)) = false := decide_eq_false (by omega)
      have t1' : decide (N < j) = false := decide_eq_false (by omega)
      by_cases h2 : N - j < a
      · have t2 : decide ((N : Int) - (j : Int) < (a : Int)) = true := decide_eq_true (by omega)
        go_enter Tryz.func25, Tryz.ntmps25
        go_wp2
        go_ret2
        exact ⟨⟨_, ⟨_, rfl⟩, fun w2 _ => by (rw [HT0.out (by omega)]; exact HCn.out w2)⟩, below_one _ _⟩
      · have t2 : decide ((N : Int) - (j : Int) < (a : Int)) = false := decide_eq_false (by omega)
        have g1 : (a : Int) + (j : Int) ≤ (N : Int) := by omega
        have g2 : (N : Int) ≤ (cB : Int) := by omega
        have HC1 := hide (fun o h => HC.out j o h (by omega))
        have HTT := hide (HTj.out j rfl (by omega))
        clear HC HCn HT0 HTj
        go_enter Tryz.func25, Tryz.ntmps25
        go_wp2
        all_goals
          go_ret2
          exact ⟨⟨_, ⟨_, rfl⟩, fun w2 hb => by (rw [HTT.out]; exact HC1.out _ (by omega) _ w2 hb)⟩, below_one _ _⟩

theorem RamAt.owns_low {w : World} {B b P D : Nat} {m : Mem} (h : RamAt w B b P D m) {x : Nat} (hx : m.owns b P D x) : B ≤ x := by
  obtain ⟨l1, l2, l3, l4⟩ := h.low
  rcases hx with rfl | rfl | rfl | ⟨p, h1, h2⟩
  · exact l1
  · exact l2
  · exact l3
  · exact l4 p x h1 h2
theorem MOut.refl {w : World} {B b P D : Nat} {m : Mem} (h : RamAt w B b P D m) : MOut w w B b P D m m false := ⟨h, Kept.refl _ _ _, Stepped.looked (Looked.refl m) (.inl rfl)⟩
theorem MOut.below {w w' : World} {B b P D : Nat} {m : Mem} (h : RamAt w B b P D m) (hB : B ≤ w.heap.size) (hb : Below w.heap.size w w') : MOut w w' B b P D m m false := ⟨h.bl hb, Kept.of hb hB, Stepped.looked (Looked.refl m) (.inl rfl)⟩
theorem code_num {a n N : Nat} {k : Int} (hN : N = 4096 * n) : codeN N a k = numE a k n := by
  unfold codeN numE
  by_cases h1 : k ≠ 1 ∧ k ≠ 2 ∧ k ≠ 4
  · rw [if_pos h1, if_pos h1]
  · rw [if_neg h1, if_neg h1]
    by_cases h2 : (n : Int) * 4096 < a + k
    · rw [if_pos h2, if_pos (by omega)]
    · rw [if_neg h2, if_neg (by omega)]
theorem num_zero {a n : Nat} {k : Int} (h : numE a k n = 0) : ∃ j : Nat, k = j ∧ (j = 1 ∨ j = 2 ∨ j = 4) ∧ a % j = 0 ∧ a + j ≤ n * 4096 := by
  unfold numE at h
  by_cases h1 : k ≠ 1 ∧ k ≠ 2 ∧ k ≠ 4
  · rw [if_pos h1] at h; cases h
  · rw [if_neg h1] at h
    by_cases h2 : (n : Int) * 4096 < a + k
    · rw [if_pos h2] at h; cases h
    · rw [if_neg h2] at h
      by_cases h3 : (a : Int) % k ≠ 0
      · rw [if_pos h3] at h; cases h
      · refine ⟨k.toNat, by omega, by omega, ?_, by omega⟩
        have h4 : (a : Int) % k = 0 := by omega
        have hk : k = 1 ∨ k = 2 ∨ k = 4 := by omega
        rcases hk with rfl | rfl | rfl <;> simp <;> omega
theorem errM_zero : errM 0 = .nilIface := if_pos rfl
/-- Stores. -/
theorem both_store {w : World} {B b P D N n : Nat} {m : Mem} {r : RP} (hI : StepIn w B b P D N n m r) (a : Act5) (l : List Nat) (hA : ActAt w B a l) :
    ∃ c z F, PCall 31 #[.pointer (some ⟨b, 0, none⟩), .int .u32 (a.at_ : Nat), .int .i64 a.k, .int .u32 (a.v : Nat)] w B b P D m c F false ∧ RCall 32 #[.agg (r.v N n), .int .u32 (a.at_ : Nat), .int .i64 a.k, .int .u32 (a.v : Nat)] w B N n m.at r z F := by
  have hN := hI.ref.few.2.2
  have hmn := hI.same
  by_cases h0 : numE a.at_ a.k n = 0
  · obtain ⟨j, hj, h1, h2, h3⟩ := num_zero h0
    rw [hj]
    refine ⟨0, 0, wroteF m.at a.at_ (numB a.v j), fun W hb => ?_, fun W hb hs hR => ?_⟩
    · refine (store_ok (hI.ram.bl hb) (Nat.le_trans hI.base hb.size) a.at_ j hA.at_ h1 h2 (by rw [hmn]; omega) a.v hA.v hI.count).mono ?_
      rintro e W' ⟨rfl, q, hq, hr, hk⟩
      exact ⟨by rw [errM_zero], _, ⟨hr, hk, Stepped.wrote hq (numB_small _ _)⟩, hq.atF (numB_len _ _)⟩
    · refine (rstore_ok hR a.at_ j hA.at_ h1 h2 (by omega) a.v hA.v).mono ?_
      rintro e W' ⟨⟨r', rfl, hr, ho⟩, hB⟩
      exact ⟨⟨r', rfl, hr, fun x hx => .inr (ho x hx)⟩, hB⟩
  · refine ⟨numE a.at_ a.k n, codeN N a.at_ a.k, m.at, fun W hb => ?_, fun W hb hs hR => ?_⟩
    · refine (store_bad b P m.n a.at_ a.k _ hA.at_ hI.ram.few W (hI.ram.bl hb).pagesAt (by rw [hmn]; exact h0)).mono ?_
      rintro e W' ⟨rfl, rfl⟩
      exact ⟨by rw [errM_some h0, hmn], m, MOut.refl (hI.ram.bl hb), rfl⟩
    · refine (rstore_bad hR a.at_ hA.at_ a.k _ (by rw [code_num hN]; exact h0)).mono ?_
      rintro e W' ⟨rfl, hB⟩
      exact ⟨⟨r, rfl, hR.bl hB, fun x hx => .inl hx⟩, hB⟩
/-- Loads. -/
theorem both_load {w : World} {B b P D N n : Nat} {m : Mem} {r : RP} (hI : StepIn w B b P D N n m r) (a : Act5) (l : List Nat) (hA : ActAt w B a l) (hsm : ∀ p j, m.dat p j < 256) :
    ∃ c, PLook 20 #[.pointer (some ⟨b, 0, none⟩), .int .u32 (a.at_ : Nat), .int .i64 a.k] w B b P D m c IsU32 ∧ RLook 21 #[.agg (r.v N n), .int .u32 (a.at_ : Nat), .int .i64 a.k] w B N n m.at r IsU32 := by
  have hmn := hI.same
  have hRL : RLook 21 #[.agg (r.v N n), .int .u32 (a.at_ : Nat), .int .i64 a.k] w B N n m.at r IsU32 := fun W hb hs hR => by
    refine (rload_any hR a.at_ hA.at_ a.k).mono ?_
    rintro e W' ⟨⟨x, y, rfl⟩, hB⟩
    exact ⟨⟨_, y, rfl, x, rfl⟩, hB⟩
  by_cases h0 : numE a.at_ a.k n = 0
  · obtain ⟨j, hj, h1, h2, h3⟩ := num_zero h0
    refine ⟨0, fun W hb => ?_, hRL⟩
    rw [hj]
    refine (load_all (hI.ram.bl hb) (Nat.le_trans hI.base hb.size) a.at_ j hA.at_ h1 h2 (by rw [hmn]; omega) (fun o _ => hsm _ o)).mono ?_
    rintro e W' ⟨rfl, ⟨m', hL, hR, hz⟩, hk⟩
    exact ⟨⟨_, by rw [errM_zero], _, rfl⟩, m', ⟨hR, hk, Stepped.looked hL hz⟩, hL.at⟩
  · refine ⟨numE a.at_ a.k n, fun W hb => ?_, hRL⟩
    refine (load_bad b P m.n a.at_ a.k hA.at_ hI.ram.few W (hI.ram.bl hb).pagesAt (by rw [hmn]; exact h0)).mono ?_
    rintro e W' ⟨rfl, rfl⟩
    exact ⟨⟨_, by rw [errM_some h0, hmn], _, rfl⟩, m, MOut.refl (hI.ram.bl hb), rfl⟩
/-- Writes. -/
theorem both_write {w : World} {B b P D N n : Nat} {m : Mem} {r : RP} (hI : StepIn w B b P D N n m r) (a : Act5) (l : List Nat) (hA : ActAt w B a l) :
    ∃ c z F, PCall 23 #[.pointer (some ⟨b, 0, none⟩), .int .u32 (a.at_ : Nat), .slice a.sa a.L a.sc] w B b P D m c F false ∧ RCall 24 #[.agg (r.v N n), .int .u32 (a.at_ : Nat), .slice a.sa a.L a.sc] w B N n m.at r z F := by
  have hN := hI.ref.few.2.2
  have hmn := hI.same
  have hfew := hA.few
  by_cases h0 : a.L = 0
  · rw [h0]
    by_cases h1 : a.at_ ≤ N
    · refine ⟨0, 0, m.at, fun W hb => ?_, fun W hb hs hR => ?_⟩
      · refine (write_null b a.at_ a.sc a.sa W).mono ?_
        rintro e W' ⟨rfl, rfl⟩
        exact ⟨by rw [errM_zero], m, MOut.refl (hI.ram.bl hb), rfl⟩
      · refine (rwrite_none hR a.at_ hA.at_ a.sa a.sc h1).mono ?_
        rintro e W' ⟨rfl, hB⟩
        exact ⟨⟨r, rfl, hR.bl hB, fun x hx => .inl hx⟩, hB⟩
    · refine ⟨0, 4, m.at, fun W hb => ?_, fun W hb hs hR => ?_⟩
      · refine (write_null b a.at_ a.sc a.sa W).mono ?_
        rintro e W' ⟨rfl, rfl⟩
        exact ⟨by rw [errM_zero], m, MOut.refl (hI.ram.bl hb), rfl⟩
      · refine (rwrite_far hR a.at_ hA.at_ a.sa 0 a.sc (by omega) (by omega)).mono ?_
        rintro e W' ⟨rfl, hB⟩
        exact ⟨⟨r, rfl, hR.bl hB, fun x hx => .inl hx⟩, hB⟩
  · by_cases h1 : a.at_ + a.L ≤ N
    · obtain ⟨sb, so, e1, e2, e3⟩ := hA.src.resolve_left h0
      rw [e1]
      refine ⟨0, 0, wroteF m.at a.at_ l, fun W hb => ?_, fun W hb hs hR => ?_⟩
      · have hbB : Below B w W := hb.mono hI.base
        refine (write_some (hI.ram.bl hb) (Nat.le_trans hI.base hb.size) a.at_ hA.at_ l a.L hA.len (by omega) (by rw [hmn]; omega) sb so a.sc hA.cap.1 (fun j v hj => (hbB.cell (p := ⟨sb, so + j, none⟩) e2).trans (e3 j v hj)) (Nat.lt_of_lt_of_le e2 (Nat.le_trans hI.base hb.size)) (fun ho => by have := hI.ram.owns_low ho; omega) hI.count).mono ?_
        rintro e W' ⟨rfl, q, hq, hr, hk⟩
        exact ⟨by rw [errM_zero], _, ⟨hr, hk, Stepped.wrote hq hA.small⟩, hq.atF hA.len⟩
      · refine (rwrite_ok hR a.at_ hA.at_ l hA.small a.L hA.len (by omega) h1 sb so a.sc hA.cap.1 hA.cap.2 (fun j v hj => (hb.cell (p := ⟨sb, so + j, none⟩) e2).trans (e3 j v hj)) (Nat.lt_of_lt_of_le e2 (Nat.le_trans hI.base hs))).mono ?_
        rintro e W' ⟨⟨r', rfl, hr, ho⟩, hB⟩
        exact ⟨⟨r', rfl, hr, fun x hx => .inr (ho x hx)⟩, hB⟩
    · refine ⟨4, 4, m.at, fun W hb => ?_, fun W hb hs hR => ?_⟩
      · refine (write_far b P m.n a.at_ a.L a.sc a.sa hA.at_ hI.ram.few (by omega) (by omega) (by rw [hmn]; omega) W (hI.ram.bl hb).pagesAt).mono ?_
        rintro e W' ⟨rfl, rfl⟩
        exact ⟨by rw [errM_some (by decide)], m, MOut.refl (hI.ram.bl hb), rfl⟩
      · refine (rwrite_far hR a.at_ hA.at_ a.sa a.L a.sc (by omega) (by omega)).mono ?_
        rintro e W' ⟨rfl, hB⟩
        exact ⟨⟨r, rfl, hR.bl hB, fun x hx => .inl hx⟩, hB⟩
/-- Reads. -/
theorem both_read {w : World} {B b P D N n : Nat} {m : Mem} {r : RP} (hI : StepIn w B b P D N n m r) (a : Act5) (l : List Nat) (hA : ActAt w B a l) (hsm : ∀ x, m.at x < 256) :
    ∃ c st, PLook 19 #[.pointer (some ⟨b, 0, none⟩), .int .u32 (a.at_ : Nat), .int .i64 a.k] w B b P D m c (IsText st) ∧ RLook 25 #[.agg (r.v N n), .int .u32 (a.at_ : Nat), .int .i64 a.k] w B N n m.at r (IsText st) := by
  have hN := hI.ref.few.2.2
  have hmn := hI.same
  have hRL : RLook 25 #[.agg (r.v N n), .int .u32 (a.at_ : Nat), .int .i64 a.k] w B N n m.at r (IsText (textOf m.at N a.at_ a.k)) := fun W hb hs hR => by
    refine (rread_text hR a.at_ hA.at_ a.k hA.k.2 hA.k.1).mono ?_
    rintro e W' ⟨⟨v, ⟨y, rfl⟩, ht⟩, hB⟩
    exact ⟨⟨v, y, rfl, fun w2 h2 => ht w2 (hB.trans (h2.mono hB.size))⟩, hB⟩
  have tx0 : ¬ (0 ≤ a.k ∧ (a.at_ : Int) + a.k ≤ N) → textOf m.at N a.at_ a.k = txt m.at a.at_ 0 := fun hn => by unfold textOf; rw [if_neg hn]
  by_cases h0 : a.k < 0
  · refine ⟨1, _, fun W hb => ?_, hRL⟩
    refine (read_neg b a.at_ a.k h0 W).mono ?_
    rintro e W' ⟨rfl, rfl⟩
    exact ⟨⟨_, by rw [errM_some (by decide)], fun w2 _ => by rw [tx0 (by omega)]; exact text_nil w2⟩, m, MOut.refl (hI.ram.bl hb), rfl⟩
  · by_cases h1 : a.k = 0
    · refine ⟨0, _, fun W hb => ?_, hRL⟩
      rw [h1]
      refine (read_none b a.at_ W).mono ?_
      rintro e W' ⟨rfl, hB⟩
      refine ⟨⟨_, by rw [errM_zero], fun w2 _ => ?_⟩, m, MOut.below (hI.ram.bl hb) (Nat.le_trans hI.base hb.size) hB, rfl⟩
      have e0 : textOf m.at N a.at_ 0 = txt m.at a.at_ 0 := by
        unfold textOf
        by_cases h : (0 : Int) ≤ 0 ∧ (a.at_ : Int) + 0 ≤ N
        · rw [if_pos h]; rfl
        · rw [if_neg h]
      rw [e0]
      exact conv_row (f := fun i => m.at (a.at_ + i)) (fun i => hsm _) (fun i hi => absurd hi (Nat.not_lt_zero _))
    · obtain ⟨j, hj⟩ : ∃ j : Nat, a.k = j := ⟨a.k.toNat, by omega⟩
      by_cases h2 : a.at_ + j ≤ N
      · refine ⟨0, _, fun W hb => ?_, hRL⟩
        rw [hj]
        refine (read_z (hI.ram.bl hb) (Nat.le_trans hI.base hb.size) a.at_ hA.at_ j (by omega) (by rw [hmn]; omega)).mono ?_
        rintro e W' ⟨rfl, hH, ⟨m', hL, hR, hz⟩, hk⟩
        refine ⟨⟨_, by rw [errM_zero], fun w2 h2 => ?_⟩, m', ⟨hR, hk, Stepped.looked hL hz⟩, hL.at⟩
        have e0 : textOf m.at N a.at_ (j : Int) = txt m.at a.at_ j := by unfold textOf; rw [if_pos (by omega)]; rfl
        rw [e0]
        exact conv_row (f := fun i => m.at (a.at_ + i)) (fun i => hsm _) (fun i hi => by rw [Nat.zero_add, (hH.bl h2).cell hi, readV_lt hi])
      · refine ⟨4, _, fun W hb => ?_, hRL⟩
        refine (read_far b P m.n a.at_ a.k hA.at_ hI.ram.few (by omega) hA.k.2 (by rw [hmn]; omega) W (hI.ram.bl hb).pagesAt).mono ?_
        rintro e W' ⟨rfl, rfl⟩
        exact ⟨⟨_, by rw [errM_some (by decide)], fun w2 _ => by rw [tx0 (by omega)]; exact text_nil w2⟩, m, MOut.refl (hI.ram.bl hb), rfl⟩
end Go.Proofs.YtficoenanfnijaaGreatDoor
