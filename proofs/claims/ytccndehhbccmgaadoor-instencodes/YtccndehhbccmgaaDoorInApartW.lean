/-
  InstApart's walk.
-/
import Derived.Test.YtccndehhbccmgaaDoorInAns
namespace Go.Proofs.YtccndehhbccmgaaDoor
open Go.RowKit
set_option linter.unusedVariables false

theorem apart_fact (i k : I6) (hi : encN i = 0) (hk : encN k = 0) : (((encW i : Nat) : Int) == ((encW k : Nat) : Int)) = i.same k := by
  rw [Bool.eq_iff_iff, I6.same_iff]
  simp only [beq_iff_eq]
  constructor
  · intro h
    have e : encW i = encW k := by omega
    rw [← (dec_enc i hi).2, ← (dec_enc k hk).2, e]
  · intro h; rw [h]

theorem below_step {N : Nat} {w0 a b : World} (hz : w0.heap.size = N) (h : Below N w0 a) (k : Below a.heap.size a b) : Below N w0 b :=
  h.trans (k.mono (by rw [← hz]; exact h.size))

theorem two_new (w : World) (i k : I6) (t : TypeId) (w0 : World) (h : (w.alloc (.cells i.cells t)).alloc (.cells k.cells t) = w0) :
    SixAt w0 w.heap.size i ∧ SixAt w0 (w.heap.size + 1) k ∧ Below w.heap.size w w0 ∧ w0.heap.size = w.heap.size + 2 := by
  subst h
  refine ⟨(SixAt.new w i t).below ((Below.refl _ _).alloc (Nat.le_refl _) _) (by simp), ?_, ((Below.refl _ w).alloc (Nat.le_refl _) _).alloc (by simp) _, by simp⟩
  have := SixAt.new (w.alloc (.cells i.cells t)) k t
  rwa [World.size_alloc] at this

set_option maxHeartbeats 2000000 in
set_option maxRecDepth 100000 in
theorem apart_walk (i k : I6) (w : World) (hT : TabsAt w) :
    Calls Tryd.prog 7 #[.agg i.cells, .agg k.cells] w fun e w' => e = .returned (.bool true) ∧ Below w.heap.size w w' := by
  have HE := hide encode_all
  have HS := hide sure_any
  have HT := hide hT
  have heq := reql_inst i k
  have HN := hide (two_new w i k 29)
  clear hT
  unfold I6.cells at *
  have hcase : (encN i = 0 ∧ encN k = 0 ∧ (((encW i : Nat) : Int) == ((encW k : Nat) : Int)) = i.same k) ∨ (encN i ≠ 0) ∨ (encN i = 0 ∧ encN k ≠ 0) := by
    by_cases h1 : encN i = 0
    · by_cases h2 : encN k = 0
      · exact .inl ⟨h1, h2, apart_fact i k h1 h2⟩
      · exact .inr (.inr ⟨h1, h2⟩)
    · exact .inr (.inl h1)
  have HEI : Hid (encN i = 0 → errno (encN i) = .nilIface) := fun h => by rw [h]; rfl
  have HEK : Hid (encN k = 0 → errno (encN k) = .nilIface) := fun h => by rw [h]; rfl
  have HPI : Hid (encN i ≠ 0 → errno (encN i) = .iface 57 (.int .i64 (encN i))) := errno_pos _
  have HPK : Hid (encN k ≠ 0 → errno (encN k) = .iface 57 (.int .i64 (encN k))) := errno_pos _
  generalize i.same k = z at *
  rcases hcase with ⟨h1, h2, h3⟩ | h1 | ⟨h1, h2⟩
  all_goals first | replace h1 := HEI.out h1 | replace h1 := HPI.out h1
  all_goals first | replace h2 := HEK.out h2 | replace h2 := HPK.out h2 | skip
  all_goals
    go_enter Tryd.func7, Tryd.ntmps7
    go_wp2_with (fail)
    obtain ⟨w0, hw0⟩ : ∃ w0, (w.alloc (.cells #[.int .i64 i.op, .int .i64 i.rd, .int .i64 i.rs1, .int .i64 i.rs2, .int .i64 i.imm, .int .i64 i.csr] 29)).alloc (.cells #[.int .i64 k.op, .int .i64 k.rd, .int .i64 k.rs1, .int .i64 k.rs2, .int .i64 k.imm, .int .i64 k.csr] 29) = w0 := ⟨_, rfl⟩
    have HN0 := hide (HN.out w0 hw0)
    rw [hw0]
    clear hw0
    have hb := Below.refl (w.heap.size + 2) w0
    go_wp2_with (first | (go_at_call 13; refine (HE.out _ _ ?_).mono ?_; exact HT.out.below (HN0.out.2.2.1.trans (hb.mono (by omega))); rintro e w2 ⟨rfl, hb2⟩; replace hb := below_step HN0.out.2.2.2 hb hb2; clear hb2; obtain ⟨c0, c1, c2, c3, c4, c5⟩ := HN0.out.1.below hb (by omega); obtain ⟨d0, d1, d2, d3, d4, d5⟩ := HN0.out.2.1.below hb (by omega)) | (go_at_call 12; refine (HS.out _ ?_).mono ?_; exact HT.out.below (HN0.out.2.2.1.trans (hb.mono (by omega))); rintro e w2 ⟨rfl, hb2⟩; replace hb := below_step HN0.out.2.2.2 hb hb2))
    go_ret
    exact ⟨rfl, HN0.out.2.2.1.trans (hb.mono (by omega))⟩
end Go.Proofs.YtccndehhbccmgaaDoor
