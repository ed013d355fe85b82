/-
  Queues of writes that wait: what the document's Check answers.
-/
import Derived.Test.YtcjfjkkkepjpmaaDoorBuRMay
namespace Go.Proofs.YtcjfjkkkepjpmaaDoor
open Go.RowKit
set_option linter.unusedVariables false

/-- Posts that lie in a row, from any place on. -/
def RPosts (b off : Nat) (l : List Pst) (w : World) : Prop := ∀ j p, l[j]? = some p → w.cell? ⟨b, off + j * 4, none⟩ = some (.int .i64 p.dev) ∧ w.cell? ⟨b, off + j * 4 + 1, none⟩ = some (.int .u32 (p.at' : Nat)) ∧ w.cell? ⟨b, off + j * 4 + 2, none⟩ = some (.int .i64 p.n) ∧ w.cell? ⟨b, off + j * 4 + 3, none⟩ = some (.int .u32 (p.v : Nat))
theorem RPosts.bl {b off : Nat} {l : List Pst} {w w' : World} (h : RPosts b off l w) (hb : Below w.heap.size w w') : RPosts b off l w' := fun j p hp => by
  obtain ⟨h0, h1, h2, h3⟩ := h j p hp
  exact ⟨cell_bl hb h0, cell_bl hb h1, cell_bl hb h2, cell_bl hb h3⟩
structure RQAt (w : World) (a : Option Addr) (l : List Pst) : Prop where
  ok : ∀ p ∈ l, p.Ok
  lies : l = [] ∨ ∃ b off, a = some ⟨b, off, none⟩ ∧ RPosts b off l w
theorem RQAt.bl {w w' : World} {a : Option Addr} {l : List Pst} (h : RQAt w a l) (hb : Below w.heap.size w w') : RQAt w' a l :=
  ⟨h.ok, h.lies.imp id (fun ⟨b, off, e, hp⟩ => ⟨b, off, e, hp.bl hb⟩)⟩

theorem all_take {l : List Pst} {k : Nat} {p : Pst} (hp : l[k]? = some p) (h : ∀ q ∈ l.take k, mayP q = true) (hm : mayP p = true) : ∀ q ∈ l.take (k + 1), mayP q = true := by
  intro q hq
  rw [List.take_add_one, hp] at hq
  rcases List.mem_append.1 hq with hq | hq
  · exact h q hq
  · simp at hq
    rw [hq]; exact hm

set_option maxHeartbeats 1000000 in
theorem rcheck_any (a : Option Addr) (l : List Pst) (hl : l.length ≤ 9223372036854775807) (cap : Nat) (w : World) (hq : RQAt w a l) :
    Calls Tryd.prog 21 #[.agg #[.slice a l.length cap]] w fun e w' => e = .returned (.int .i64 ((if checkQ l = true then 0 else 1 : Nat) : Nat)) ∧ Below w.heap.size w w' := by
  by_cases h8 : l.length ≤ 8
  · have hc : checkQ l = l.all mayP := by unfold checkQ; rw [show decide (l.length ≤ 8) = true by simpa using h8, Bool.true_and]
    rw [hc]
    have HQ := hide hq
    have h8' : ¬ 8 < (l.length : Int) := by omega
    obtain ⟨N, hN⟩ : ∃ N, l.length = N := ⟨_, rfl⟩
    rw [hN] at h8 h8' ⊢
    have HN := hide hN
    generalize hR : (if l.all mayP = true then 0 else 1 : Nat) = R
    have HRv := hide hR
    clear hq hc hN hl hR
    go_enter Tryd.func21, Tryd.ntmps21
    go_wp2
    obtain ⟨W0, hW0⟩ : ∃ W0, w.alloc (.cells #[.slice a N cap] 37) = W0 := ⟨_, rfl⟩
    have R0 := hide (hW0 ▸ RowAt.new w w.heap.size #[.slice a N cap] 37 rfl)
    have B0 := hide (hW0 ▸ below_one w (.cells #[.slice a N cap] 37))
    rw [hW0]
    clear hW0
    go_loopw [3] (fun kv wr => ∃ k : Nat, k ≤ N ∧ kv = .int .i64 (k : Nat) ∧ (∀ q ∈ l.take k, mayP q = true) ∧ Below W0.heap.size W0 wr) (fun kv _ => N - (intOf kv).toNat)
    case atStart => exact ⟨0, Nat.zero_le _, rfl, fun q h => by simp at h, Below.refl _ _⟩
    case round =>
      obtain ⟨k, hk, rfl, hno, hB⟩ := hrel
      have HNo := hide hno
      have HB := hide hB
      have d0 : wr.cell? ⟨w.heap.size, 0, none⟩ = some (.slice a N cap) := (R0.out.bl HB.out).cell 0
      clear hno hB
      by_cases hlt : k < N
      · obtain ⟨p, hp⟩ : ∃ p, l[k]? = some p := ⟨_, List.getElem?_eq_getElem (by rw [HN.out]; exact hlt)⟩
        rcases HQ.out.lies with e | ⟨b, off, rfl, hps⟩
        · rw [e] at hp; simp at hp
        obtain ⟨c0, c1, c2, c3⟩ := ((hps.bl B0.out).bl HB.out) k p hp
        have HM := hide (fun W => rmay_any p (HQ.out.ok p (List.mem_of_getElem? hp)) W)
        have HT := hide (fun hm => all_take hp HNo.out hm)
        have HP := hide hp
        obtain ⟨r, hr⟩ : ∃ r, mayP p = r := ⟨_, rfl⟩
        rw [hr] at HM HT
        have HR := hide hr
        clear hp hr hps
        obtain ⟨dev, pa, n, v⟩ := p
        simp only at c0 c1 c2 c3
        cases r with
        | true =>
          go_wp2_with (go_at_call 29; refine (HM.out _).mono ?_; rintro e w2 ⟨rfl, hx⟩; have HB2 := hide (below_bl rfl HB.out hx); clear hx)
          go_roundw
          case rel => exact ⟨k + 1, by omega, by go_num, HT.out (by trivial), HB2.out⟩
          case measure => simp [intOf]; omega
        | false =>
          go_wp2_with (go_at_call 29; refine (HM.out _).mono ?_; rintro e w2 ⟨rfl, hx⟩; have HB2 := hide (below_bl rfl HB.out hx); clear hx)
          go_ret
          have hall : l.all mayP = false := by
            rw [Bool.eq_false_iff]
            intro ha
            have := List.all_eq_true.1 ha _ (List.mem_of_getElem? HP.out)
            rw [HR.out] at this
            cases this
          obtain rfl : R = 1 := by rw [← HRv.out, hall]; rfl
          exact ⟨rfl, below_bl rfl B0.out HB2.out⟩
      · obtain rfl : k = N := by omega
        go_wp2
        go_ret
        have hall : l.all mayP = true := by
          have := HNo.out
          rw [← HN.out, List.take_length] at this
          exact List.all_eq_true.2 this
        obtain rfl : R = 0 := by rw [← HRv.out, hall]; rfl
        exact ⟨rfl, below_bl rfl B0.out HB.out⟩
  · have hc : checkQ l = false := by unfold checkQ; rw [show decide (l.length ≤ 8) = false by simpa using h8, Bool.false_and]
    rw [hc]
    have h8' : 8 < (l.length : Int) := by omega
    generalize l.length = N at *
    clear hq hc
    go_enter Tryd.func21, Tryd.ntmps21
    go_wp2
    go_ret
    exact ⟨rfl, below_one _ _⟩
end Go.Proofs.YtcjfjkkkepjpmaaDoor
