/-
  The law's step, whatever act it is.
-/
import Derived.Test.YtficoenanfnijaaGreatDoorJMeAct
namespace Go.Proofs.YtficoenanfnijaaGreatDoor
open Go.RowKit
set_option linter.unusedVariables false

theorem set_out {w W W' : World} {B b P D : Nat} {m : Mem} {p g : Nat} {l : List Nat} (hl : l.length = 4096) (hs : ∀ y, y ∈ l → y < 256) (hr : RamAt W' B b P D (m.setp p g l)) (hg : m.blk p = some g ∨ (m.blk p = none ∧ W.heap.size ≤ g)) (hk : Kept B W W' (m.owns b P D)) :
    MOut W W' B b P D m (m.setp p g l) false ∧ (m.setp p g l).at = wroteF m.at (4096 * p) l := by
  have hw := wrote_setp (m := m) (p := p) (g := g) (S := W.heap.size) hl hg
  refine ⟨⟨hr, hk, Stepped.wrote hw hs⟩, ?_⟩
  have := hw.atF hl
  rw [Nat.mul_comm 4096 p]
  exact this
theorem both_setodd {w : World} {B b P D N n : Nat} {m : Mem} {r : RP} (hI : StepIn w B b P D N n m r) (a : Act5) (l : List Nat) (hA : ActAt w B a l) :
    ∃ c z F, PCall 14 #[.pointer (some ⟨b, 0, none⟩), .int .i64 (a.v : Nat), .slice a.sa a.L a.sc] w B b P D m c F false ∧ RCall 26 #[.agg (r.v N n), .int .i64 (a.v : Nat), .slice a.sa a.L a.sc] w B N n m.at r z F := by
  have hmn := hI.same
  have hv := hA.v
  by_cases h0 : n ≤ a.v
  · refine ⟨4, 4, m.at, fun W hb => ?_, fun W hb hs hR => ?_⟩
    · refine (set_bad b P m.n a.v _ (.inr (by omega)) hI.ram.few W (hI.ram.bl hb).pagesAt).mono ?_
      rintro e W' ⟨rfl, rfl⟩
      exact ⟨by rw [errM_some (by decide)], m, MOut.refl (hI.ram.bl hb), rfl⟩
    · refine (rset_bad hR a.v h0 hv _).mono ?_
      rintro e W' ⟨rfl, hB⟩
      exact ⟨⟨r, rfl, hR.bl hB, fun x hx => .inl hx⟩, hB⟩
  · by_cases h1 : a.L = 4096
    · obtain ⟨sb, so, e1, e2, e3⟩ := hA.src.resolve_left (by omega)
      have hlen : l.length = 4096 := hA.len.trans h1
      have hcap := hA.cap
      rw [e1, h1]
      rw [h1] at hcap
      refine ⟨0, 0, wroteF m.at (4096 * a.v) l, fun W hb => ?_, fun W hb hs hR => ?_⟩
      · have hbB : Below B w W := hb.mono hI.base
        refine (set_all (hI.ram.bl hb) (Nat.le_trans hI.base hb.size) a.v (by omega) l hlen sb so a.sc hcap.1 (fun j v hj => (hbB.cell (p := ⟨sb, so + j, none⟩) e2).trans (e3 j v hj)) (Nat.lt_of_lt_of_le e2 (Nat.le_trans hI.base hb.size)) (fun ho => by have := hI.ram.owns_low ho; omega) hI.count).mono ?_
        rintro e W' ⟨rfl, ⟨g, hr, hg⟩, hk⟩
        exact ⟨by rw [errM_zero], _, set_out (w := w) hlen hA.small hr hg hk⟩
      · refine (rset_ok hR a.v (by omega) l hA.small hlen sb so a.sc hcap.1 hcap.2 (fun j v hj => (hb.cell (p := ⟨sb, so + j, none⟩) e2).trans (e3 j v hj)) (Nat.lt_of_lt_of_le e2 (Nat.le_trans hI.base hs))).mono ?_
        rintro e W' ⟨⟨r', rfl, hr, ho⟩, hB⟩
        exact ⟨⟨r', rfl, hr, fun x hx => .inr (ho x hx)⟩, hB⟩
    · refine ⟨2, 2, m.at, fun W hb => ?_, fun W hb hs hR => ?_⟩
      · refine (set_long b P m.n a.v a.L a.sc a.sa (by omega) h1 hI.ram.few W (hI.ram.bl hb).pagesAt).mono ?_
        rintro e W' ⟨rfl, rfl⟩
        exact ⟨by rw [errM_some (by decide)], m, MOut.refl (hI.ram.bl hb), rfl⟩
      · refine (rset_long hR a.v (by omega) a.sa a.L a.sc h1).mono ?_
        rintro e W' ⟨rfl, hB⟩
        exact ⟨⟨r, rfl, hR.bl hB, fun x hx => .inl hx⟩, hB⟩
theorem page_src {W : World} {O : Nat} {l : List Nat} (h : HoldsAt W O 4096 5 (fun j => .int .u8 ((l[j]?).getD 0 : Nat))) (j : Nat) (v : Value) (hj : (byteV (pageOf l))[j]? = some v) : W.cell? ⟨O, 0 + j, none⟩ = some v := by
  have hj4 : j < 4096 := by have := (List.getElem?_eq_some_iff.1 hj).1; rwa [byteV_len, pageOf_len] at this
  rw [Nat.zero_add, h.cell hj4, ← hj, pageOf_at hj4]
theorem step_even {w : World} {B b P D N n : Nat} {m : Mem} {r : RP} (hI : StepIn w B b P D N n m r) (a : Act5) (l : List Nat) (hA : ActAt w B a l) (hk : a.kind = 6) (hev : (a.k.tmod 2 == 0) = true) :
    Calls Tryz.prog 8 #[.pointer (some ⟨b, 0, none⟩), .agg (r.v N n), .agg a.cells] w (StepOut w B b P D N n m r false) := by
  have hmn := hI.same
  have hv := hA.v
  by_cases h0 : n ≤ a.v
  · refine step_seteven hI a l hA hk hev hv 4 4 m.at (fun W O hb hO hw => ?_) (fun W O hb hs hR hO => ?_)
    · refine (set_bad b P m.n a.v _ (.inr (by omega)) hI.ram.few W (hI.ram.bl hb).pagesAt).mono ?_
      rintro e W' ⟨rfl, rfl⟩
      exact ⟨by rw [errM_some (by decide)], m, MOut.refl (hI.ram.bl hb), rfl⟩
    · refine (rset_bad hR a.v h0 hv _).mono ?_
      rintro e W' ⟨rfl, hB⟩
      exact ⟨⟨r, rfl, hR.bl hB, fun x hx => .inl hx⟩, hB⟩
  · have hsm := pageOf_small hA.small
    refine step_seteven hI a l hA hk hev hv 0 0 (wroteF m.at (4096 * a.v) (pageOf l)) (fun W O hb hO hw => ?_) (fun W O hb hs hR hO => ?_)
    · refine (set_all (hI.ram.bl hb) (Nat.le_trans hI.base hb.size) a.v (by omega) (pageOf l) (pageOf_len l) O 0 4096 (Nat.le_refl _) (page_src hO) hO.lt (fun ho => by have := hI.ram.owned ho; omega) hI.count).mono ?_
      rintro e W' ⟨rfl, ⟨g, hr, hg⟩, hk⟩
      exact ⟨by rw [errM_zero], _, set_out (w := w) (pageOf_len l) hsm hr hg hk⟩
    · refine (rset_ok hR a.v (by omega) (pageOf l) hsm (pageOf_len l) O 0 4096 (Nat.le_refl _) (by unfold maxLen; omega) (page_src hO) hO.lt).mono ?_
      rintro e W' ⟨⟨r', rfl, hr, ho⟩, hB⟩
      exact ⟨⟨r', rfl, hr, fun x hx => .inr (ho x hx)⟩, hB⟩
theorem step_any {w : World} {B b P D N n : Nat} {m : Mem} {r : RP} (hI : StepIn w B b P D N n m r) (a : Act5) (l : List Nat) (hA : ActAt w B a l) (hsm : ∀ p j, m.dat p j < 256) :
    Calls Tryz.prog 8 #[.pointer (some ⟨b, 0, none⟩), .agg (r.v N n), .agg a.cells] w (StepOut w B b P D N n m r (a.kind == 7)) := by
  have hs2 : ∀ x, m.at x < 256 := fun x => hsm _ _
  have hk9 : a.kind < 9 := by
    unfold Act5.kind
    have h1 : 0 ≤ a.kd % 18446744073709551616 % 9 := Int.emod_nonneg _ (by decide)
    have h2 : a.kd % 18446744073709551616 % 9 < 9 := Int.emod_lt_of_pos _ (by decide)
    omega
  by_cases h7 : a.kind = 7
  · rw [h7]
    refine step_harvest hI a h7 (fun W hb => ?_)
    refine (harvest_any (hI.ram.bl hb) (Nat.le_trans hI.base hb.size) (by rw [hI.same]; exact hI.ref.few.1)).mono ?_
    rintro e W' ⟨v, rfl, hO, hR, hK⟩
    refine ⟨⟨v, dirtyTo m m.n, rfl, IntRow.of hO, ?_⟩, m.clean, ⟨hR, hK, Stepped.clean'⟩, rfl⟩
    exact Nat.le_trans (dirtyTo_len m m.n) hI.ram.few
  · have hb : (a.kind == 7) = false := by simpa using h7
    rw [hb]
    have hc : a.kind = 0 ∨ a.kind = 1 ∨ a.kind = 2 ∨ a.kind = 3 ∨ a.kind = 4 ∨ a.kind = 5 ∨ a.kind = 6 ∨ a.kind = 8 := by omega
    rcases hc with h | h | h | h | h | h | h | h
    · obtain ⟨c, z, F, h1, h2⟩ := both_store hI a l hA; exact step_store0 hI a h c z F h1 h2
    · obtain ⟨c, z, F, h1, h2⟩ := both_store hI a l hA; exact step_store1 hI a h c z F h1 h2
    · obtain ⟨c, h1, h2⟩ := both_load hI a l hA hsm; exact step_load hI a h c h1 h2
    · obtain ⟨c, z, F, h1, h2⟩ := both_write hI a l hA; exact step_write3 hI a h c z F h1 h2
    · obtain ⟨c, z, F, h1, h2⟩ := both_write hI a l hA; exact step_write4 hI a h c z F h1 h2
    · obtain ⟨c, st, h1, h2⟩ := both_read hI a l hA hs2; exact step_read hI a h c st h1 h2
    · cases hev : (a.k.tmod 2 == 0) with
      | true => exact step_even hI a l hA h hev
      | false => obtain ⟨c, z, F, h1, h2⟩ := both_setodd hI a l hA; exact step_setodd hI a h hev hA.v c z F h1 h2
    · by_cases hp : a.k < 0 ∨ (n : Int) ≤ a.k
      · exact step_digest_bad hI a h hp
      · obtain ⟨p, hpk⟩ : ∃ p : Nat, a.k = p := ⟨a.k.toNat, by omega⟩
        exact step_digest_ok hI a h p (by omega) hpk hsm
end Go.Proofs.YtficoenanfnijaaGreatDoor
