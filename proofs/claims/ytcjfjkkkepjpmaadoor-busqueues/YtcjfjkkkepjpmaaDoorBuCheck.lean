/-
  Queues of writes that wait: what bus.Check answers.
-/
import Derived.Test.YtcjfjkkkepjpmaaDoorBuMay
namespace Go.Proofs.YtcjfjkkkepjpmaaDoor
open Go.RowKit
set_option linter.unusedVariables false

theorem ret_bool {a b : Bool} (h : a = b) : Ending.returned (.bool a) = .returned (.bool b) := by rw [h]
/-- Posts that lie in a row, from its beginning on. -/
def PostsAt (g : Nat) (l : List Pst) (w : World) : Prop := ∀ j p, l[j]? = some p → w.cell? ⟨g, j * 4, none⟩ = some (.int .i64 p.dev) ∧ w.cell? ⟨g, j * 4 + 1, none⟩ = some (.int .u32 (p.at' : Nat)) ∧ w.cell? ⟨g, j * 4 + 2, none⟩ = some (.int .i64 p.n) ∧ w.cell? ⟨g, j * 4 + 3, none⟩ = some (.int .u32 (p.v : Nat))
theorem PostsAt.bl {g : Nat} {l : List Pst} {w w' : World} (h : PostsAt g l w) (hb : Below w.heap.size w w') : PostsAt g l w' := fun j p hp => by
  obtain ⟨h0, h1, h2, h3⟩ := h j p hp
  exact ⟨cell_bl hb h0, cell_bl hb h1, cell_bl hb h2, cell_bl hb h3⟩
def oddP (p : Pst) : Bool := !mayP p

set_option maxHeartbeats 400000 in
theorem odd_any (p : Pst) (hp : p.Ok) (w : World) (hA : AreasAt w) : Calls Tryd.prog 30 #[.agg #[.int .i64 p.dev, .int .u32 (p.at' : Nat), .int .i64 p.n, .int .u32 (p.v : Nat)]] w fun e w' => e = .returned (.bool (oddP p)) ∧ Below w.heap.size w w' := by
  have HM : Hid (∀ w', AreasAt w' → Calls Tryd.prog 28 #[.agg #[.int .i64 p.dev, .int .u32 (p.at' : Nat), .int .i64 p.n, .int .u32 (p.v : Nat)]] w' fun e w'' => e = .returned (.bool (mayP p)) ∧ Below w'.heap.size w' w'') := hide (fun w' h => may_any p hp w' h)
  have HA := hide (fun o => hA.bl (below_one w o))
  unfold oddP
  obtain ⟨dev, a, n, v⟩ := p
  generalize mayP _ = r at *
  simp only at HM ⊢
  clear hp hA
  go_enter Tryd.func30, Tryd.ntmps30
  go_wp2_with (go_at_call 28; refine (HM.out _ (HA.out _)).mono ?_; rintro e w1 ⟨rfl, hb1⟩; have B1 := hide (below_bl rfl (below_one w _) hb1); clear hb1)
  go_ret
  exact ⟨rfl, B1.out⟩

def idxP (l : List Pst) : Int := match l.findIdx? oddP with | some i => (i : Int) | none => -1
theorem idxP_at (l : List Pst) (k : Nat) (p : Pst) (hp : l[k]? = some p) (hno : ∀ q ∈ l.take k, oddP q = false) (h : oddP p = true) : idxP l = (k : Int) := by
  have : l.findIdx? oddP = some k := by
    rw [List.findIdx?_eq_some_iff_getElem]
    obtain ⟨hk, he⟩ := List.getElem?_eq_some_iff.1 hp
    refine ⟨hk, by rw [he]; exact h, fun j hj => ?_⟩
    rw [Bool.not_eq_true]
    exact hno _ (List.mem_take_iff_getElem.2 ⟨j, by omega, rfl⟩)
  unfold idxP
  rw [this]
theorem idxP_none (l : List Pst) (h : ∀ q ∈ l, oddP q = false) : idxP l = -1 := by
  unfold idxP
  rw [List.findIdx?_eq_none_iff.2 h]
theorem idxP_all (l : List Pst) : decide (0 ≤ idxP l) = !l.all mayP := by
  unfold idxP
  cases h : l.findIdx? oddP with
  | none =>
    have h' := List.findIdx?_eq_none_iff.1 h
    have : l.all mayP = true := List.all_eq_true.2 (fun p hp => by have := h' p hp; simpa [oddP] using this)
    rw [this]; decide
  | some i =>
    rw [List.findIdx?_eq_some_iff_getElem] at h
    obtain ⟨hk, he, _⟩ := h
    have : l.all mayP = false := by
      rw [Bool.eq_false_iff]
      intro ha
      have := List.all_eq_true.1 ha _ (List.getElem_mem hk)
      simp [oddP, this] at he
    rw [this]; simp

def IxP (l : List Pst) (w : World) (iv : Value) (wr : World) : Prop :=
  ∃ k : Nat, iv = .int .i64 (k : Int) ∧ k ≤ l.length ∧ (∀ p ∈ l.take k, oddP p = false) ∧ Below w.heap.size w wr

set_option maxHeartbeats 1000000 in
theorem index_posts (l : List Pst) (hl : l.length ≤ 1000) (hok : ∀ p ∈ l, p.Ok) (g cap : Nat) (w : World) (hL : PostsAt g l w) (hA : AreasAt w) :
    Calls Tryd.prog 36 #[.slice (some ⟨g, 0, none⟩) l.length cap, .func (.func 30) #[] #[]] w fun e w' => e = .returned (.int .i64 (idxP l)) ∧ Below w.heap.size w w' := by
  have HL := hide hL
  have HA := hide hA
  clear hA hL
  go_enter Tryd.func36, Tryd.ntmps36
  go_wp2
  go_loopw [8] (fun iv wr => IxP l w iv wr) (fun iv wr => l.length - (intOf iv).toNat)
  case atStart => exact ⟨0, rfl, Nat.zero_le _, fun p h => by simp at h, Below.refl _ _⟩
  case round =>
    obtain ⟨k, rfl, hk, hno, hB⟩ := hrel
    have HN := hide hno
    have HB := hide hB
    clear hno hB
    by_cases hlt : k < l.length
    · obtain ⟨p, hp⟩ : ∃ p, l[k]? = some p := ⟨_, List.getElem?_eq_getElem hlt⟩
      obtain ⟨hc0, hc1, hc2, hc3⟩ := (HL.out.bl HB.out) k _ hp
      have HTk := hide (show l.take (k + 1) = l.take k ++ [p] from by rw [List.take_add_one, hp]; rfl)
      have HC := hide (fun W => odd_any p (hok p (List.mem_of_getElem? hp)) W)
      have HI := hide (fun (h : oddP p = true) => idxP_at l k p hp HN.out h)
      obtain ⟨b, hb⟩ : ∃ b, oddP p = b := ⟨_, rfl⟩
      rw [hb] at HC HI
      have HPb := hide hb
      clear hp hb
      obtain ⟨dev, a, n, v⟩ := p
      simp only at hc0 hc1 hc2 hc3
      cases b with
      | true =>
        go_wp2_with (go_at_call 30; refine (HC.out _ (HA.out.bl HB.out)).mono ?_; rintro e w2 ⟨rfl, hx2⟩; have HB2 := hide (below_bl rfl HB.out hx2); clear hx2)
        go_ret
        exact ⟨ret_int (HI.out (by trivial)).symm, HB2.out⟩
      | false =>
        go_wp2_with (go_at_call 30; refine (HC.out _ (HA.out.bl HB.out)).mono ?_; rintro e w2 ⟨rfl, hx2⟩; have HB2 := hide (below_bl rfl HB.out hx2); clear hx2)
        go_roundw
        case rel => exact ⟨k + 1, by go_num, by omega, fun p h => by rw [HTk.out] at h; rcases List.mem_append.1 h with h | h; exact HN.out p h; obtain rfl := List.mem_singleton.1 h; exact HPb.out, HB2.out⟩
        case measure => simp [intOf]; omega
    · obtain rfl : k = l.length := by omega
      go_wp2
      go_ret
      refine ⟨ret_int ?_, HB.out⟩
      have := HN.out
      rw [List.take_length] at this
      rw [idxP_none l this]
theorem index_nothing (a : Option Addr) (cap : Nat) (w : World) :
    Calls Tryd.prog 36 #[.slice a 0 cap, .func (.func 30) #[] #[]] w fun e w' => e = .returned (.int .i64 (-1)) ∧ Below w.heap.size w w' := by
  go_enter Tryd.func36, Tryd.ntmps36
  go_wp2
  go_loopw [8] (fun iv wr => iv = .int .i64 0 ∧ Below w.heap.size w wr) (fun iv wr => 0)
  case atStart => exact ⟨rfl, Below.refl _ _⟩
  case round =>
    obtain ⟨rfl, hB⟩ := hrel
    go_wp2
    go_ret
    exact ⟨rfl, hB⟩

/-- A list of posts as a value. -/
structure QAt (w : World) (a : Option Addr) (l : List Pst) : Prop where
  ok : ∀ p ∈ l, p.Ok
  lies : l = [] ∨ ∃ g, a = some ⟨g, 0, none⟩ ∧ PostsAt g l w
theorem QAt.bl {w w' : World} {a : Option Addr} {l : List Pst} (h : QAt w a l) (hb : Below w.heap.size w w') : QAt w' a l :=
  ⟨h.ok, h.lies.imp id (fun ⟨g, e, hp⟩ => ⟨g, e, hp.bl hb⟩)⟩
def checkQ (l : List Pst) : Bool := decide (l.length ≤ 8) && l.all mayP

theorem contains_any (a : Option Addr) (l : List Pst) (hl : l.length ≤ 1000) (cap : Nat) (w : World) (hq : QAt w a l) (hA : AreasAt w) :
    Calls Tryd.prog 31 #[.slice a l.length cap, .func (.func 30) #[] #[]] w fun e w' => e = .returned (.bool (!l.all mayP)) ∧ Below w.heap.size w w' := by
  have HI : Hid (Calls Tryd.prog 36 #[.slice a l.length cap, .func (.func 30) #[] #[]] w fun e w' => e = .returned (.int .i64 (idxP l)) ∧ Below w.heap.size w w') := by
    refine hide ?_
    rcases hq.lies with rfl | ⟨g, rfl, hp⟩
    · exact index_nothing a cap w
    · exact index_posts l hl hq.ok g cap w hp hA
  rw [← idxP_all]
  generalize idxP l = r at *
  generalize l.length = N at *
  clear hq hA
  go_enter Tryd.func31, Tryd.ntmps31
  go_wp2_with (go_at_call 36; refine HI.out.mono ?_; rintro e w1 ⟨rfl, hb1⟩)
  go_ret
  exact ⟨rfl, hb1⟩

theorem check_any (a : Option Addr) (l : List Pst) (hl : l.length ≤ 1000) (cap : Nat) (w : World) (hq : QAt w a l) (hA : AreasAt w) :
    Calls Tryd.prog 20 #[.agg #[.slice a l.length cap]] w fun e w' => e = .returned (errB (if checkQ l = true then 0 else 1)) ∧ Below w.heap.size w w' := by
  by_cases h8 : l.length ≤ 8
  · have HC := hide (fun o => contains_any a l hl cap (w.alloc o) (hq.bl (below_one w o)) (hA.bl (below_one w o)))
    have hc : checkQ l = l.all mayP := by unfold checkQ; rw [show decide (l.length ≤ 8) = true by simpa using h8, Bool.true_and]
    rw [hc]
    have h8' : ¬ 8 < (l.length : Int) := by omega
    generalize l.length = N at *
    clear hq hA hc
    cases hr : l.all mayP with
    | true =>
      rw [hr] at HC
      clear hr
      go_enter Tryd.func20, Tryd.ntmps20
      go_wp2_with (go_at_call 31; refine (HC.out _).mono ?_; rintro e w1 ⟨rfl, hb1⟩; have B1 := hide (below_bl rfl (below_one w _) hb1); clear hb1)
      go_ret
      exact ⟨rfl, B1.out⟩
    | false =>
      rw [hr] at HC
      clear hr
      go_enter Tryd.func20, Tryd.ntmps20
      go_wp2_with (go_at_call 31; refine (HC.out _).mono ?_; rintro e w1 ⟨rfl, hb1⟩; have B1 := hide (below_bl rfl (below_one w _) hb1); clear hb1)
      go_ret
      exact ⟨rfl, B1.out⟩
  · have hc : checkQ l = false := by unfold checkQ; rw [show decide (l.length ≤ 8) = false by simpa using h8, Bool.false_and]
    rw [hc]
    have h8' : 8 < (l.length : Int) := by omega
    generalize l.length = N at *
    clear hq hA hc
    go_enter Tryd.func20, Tryd.ntmps20
    go_wp2
    go_ret
    exact ⟨rfl, below_one _ _⟩
end Go.Proofs.YtcjfjkkkepjpmaaDoor
