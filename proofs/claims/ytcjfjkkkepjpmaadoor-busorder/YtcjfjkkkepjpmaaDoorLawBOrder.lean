/-
  BusOrder: of any writes, with any of them taken out between, those that come out are those that went in, in their order, and none is lost; what must come whatever the input is comes; the arguments stay. The one condition: errors.errorType and the bus's map read as the program's text lays them, to which the card ties them.
-/
import Derived.Test.YtcjfjkkkepjpmaaDoorBuOrdW
import Derived.Test.YtcjfjkkkepjpmaaDoorFlatRows
namespace Go.Proofs.YtcjfjkkkepjpmaaDoor
open Go.ChangeShapes Go.WideShapes Go.ChangeAt Go.RowKit
set_option linter.unusedVariables false

theorem laidOut : laidOutB Tryd.prog = true := by kernel_rfl

set_option maxRecDepth 100000 in
theorem open_posts {H : Type} {enc : TypeId × Value → H} {W : World} {base : Nat} {spare : Nat → Bool} {held : Bool} {a : Option Addr} {len cap : Nat} {d : DataW H} {p : List MemPlace}
    (h : DataW.Trod enc Tryd.prog W base spare held 35 (.slice a len cap) d p) : ∃ f : Nat → Pst, len ≤ 9223372036854775807 ∧ ArgAt a len f W := by
  obtain ⟨h1, h2, g, hg⟩ := open_rows (ks := [.i64, .u32, .i64, .u32]) Tryd.underlying35 Tryd.underlying39 (by kernel_rfl) (by decide) (by
    intro i f hf
    match i, hf with
    | 0, hf => cases hf; exact ⟨Tryd.underlying3, by kernel_rfl, rfl⟩
    | 1, hf => cases hf; exact ⟨Tryd.underlying22, by kernel_rfl, rfl⟩
    | 2, hf => cases hf; exact ⟨Tryd.underlying3, by kernel_rfl, rfl⟩
    | 3, hf => cases hf; exact ⟨Tryd.underlying22, by kernel_rfl, rfl⟩
    | n + 4, hf => simp at hf) h
  refine ⟨fun j => ⟨g j 0, (g j 1).toNat, g j 2, (g j 3).toNat⟩, by unfold maxLen at h2; omega, fun j hj => ?_⟩
  obtain ⟨⟨b, o, e, hc⟩, hw⟩ := hg j hj
  have b1 := bounds_u32 (hw 1 (by decide))
  have b3 := bounds_u32 (hw 3 (by decide))
  have k0 : W.cell? ⟨b, o + j * 4, none⟩ = some (.int .i64 (g j 0)) := hc 0 (by decide)
  have k1 : W.cell? ⟨b, o + j * 4 + 1, none⟩ = some (.int .u32 (g j 1)) := hc 1 (by decide)
  have k2 : W.cell? ⟨b, o + j * 4 + 2, none⟩ = some (.int .i64 (g j 2)) := hc 2 (by decide)
  have k3 : W.cell? ⟨b, o + j * 4 + 3, none⟩ = some (.int .u32 (g j 3)) := hc 3 (by decide)
  refine ⟨⟨?_, ?_⟩, b, o, e, block_lt_of_cell k0, k0, ?_, k2, ?_⟩
  · show (g j 1).toNat < 4294967296; omega
  · show (g j 3).toNat < 4294967296; omega
  · show _ = some (Value.int .u32 (((g j 1).toNat : Nat) : Int)); rw [k1, Int.toNat_of_nonneg b1.1]
  · show _ = some (Value.int .u32 (((g j 3).toNat : Nat) : Int)); rw [k3, Int.toNat_of_nonneg b3.1]

theorem open_marks {H : Type} {enc : TypeId × Value → H} {W : World} {base : Nat} {spare : Nat → Bool} {held : Bool} {a : Option Addr} {len cap : Nat} {d : DataW H} {p : List MemPlace}
    (h : DataW.Trod enc Tryd.prog W base spare held 58 (.slice a len cap) d p) : ∃ z : Nat → Bool, len ≤ 9223372036854775807 ∧ MarkAt a len z W := by
  obtain ⟨fuel, hfu⟩ := h
  rcases DataW.trod_slice Tryd.underlying58 hfu with ⟨h0, _⟩ | ⟨ad, len', cap', elems, rest, n, _, hcs, _, hb, hl, hm, hlen, hel, _, _⟩
  · simp [Value.cells] at h0
    obtain ⟨rfl, rfl, rfl⟩ := h0
    exact ⟨fun _ => false, by omega, fun j hj => absurd hj (by omega)⟩
  · simp [Value.cells] at hcs
    obtain ⟨rfl, rfl, rfl⟩ := hcs
    have hce : Tryd.prog.cellsOf 4 = 1 := by kernel_rfl
    have each : ∀ j, j < len → ∃ v, W.cell? (ad.add j) = some (.bool v) := by
      intro j hj
      have h1 := hel j hj
      have hxj : j < elems.length := by omega
      rw [List.getElem?_eq_getElem hxj, hce, Nat.mul_one] at h1
      rw [Option.bind_eq_some_iff] at h1
      obtain ⟨cs, h2, h3⟩ := h1
      obtain ⟨v, rfl, _⟩ := DataW.trod_bool Tryd.underlying4 h3
      exact ⟨v, cell_of_cells?_one h2⟩
    refine ⟨fun j => if h : j < len then (each j h).choose else false, by unfold maxLen at hm; omega, fun j hj => ?_⟩
    obtain ⟨v0, hv0⟩ := each 0 (by omega)
    have hsp : ad.spot = none := by
      have := World.cell?_spot hv0
      simpa [Addr.add] using this
    obtain ⟨b, o, spot⟩ := ad
    simp only at hsp
    subst hsp
    refine ⟨b, o, rfl, ?_⟩
    have hs := (each j hj).choose_spec
    have e9 : (⟨b, o + j, none⟩ : Addr) = (⟨b, o, none⟩ : Addr).add j := by rw [Addr.add_lit]
    rw [e9, hs]
    simp [hj]

set_option maxRecDepth 100000 in
theorem busOrder_lifted (os : Os) (started : os.Started) (H : Type) (enc : TypeId × Value → H) :
    ReturnsInHanded {} Tryd.checked os 7 .any (fun w args => (Rows.busOrderSpec.pre enc Tryd.prog Tryd.f7 [] false w args ∧ laidMetH Tryd.prog laid2 w) ∧ sizedMet enc Tryd.prog Tryd.f7 (OpenSpec.ofChange Rows.busOrderSpec) false w args)
      (Rows.busOrderSpec.post enc Tryd.prog Tryd.f7 false true false false) := by
  refine returnsInHanded_of_change_and (C := Tryd.checked) (X := fun w _ => laidMetH Tryd.prog laid2 w) (fun _ _ _ hh h => h.of_heap hh) own started (by kernel_rfl) Tryd.func7
    (ChangeSpec.witness_shaped (enc := enc) (C := Tryd.checked) (os := os) (X := fun w _ => laidMetH Tryd.prog laid2 w) false (World.doorLaid Tryd.prog 600 os) #[.slice none 0 0, .slice none 0 0] 8 rfl (World.shaped_of_RefB (by kernel_rfl) (by kernel_rfl)) (by kernel_rfl) (by kernel_rfl) (by kernel_rfl) (door2 os _)) ?_
  intro W base args ds gs before hval0 hW _ _ hL _
  have hval : ∀ (j : Nat) t v, Tryd.f7.params[j]? = some t → args[j]? = some v → Value.okWide Tryd.prog W .any base t v := hval0
  have hW' := hW
  obtain ⟨p, q, hA0, hV, rfl, hfz, hnd⟩ := hW
  have hA : DataW.TrodAll enc Tryd.prog W 0 (fun _ => true) true Tryd.f7.params.toList args.toList ds p := hA0
  rw [Tryd.params7] at hA hval
  obtain ⟨v0, vs0, d0, ds0, p0, q0, hargs, rfl, rfl, h0, r0⟩ := trodAll_cons hA
  obtain ⟨v1, vs1, d1, ds1, p1, q1, rfl, rfl, rfl, h1, r1⟩ := trodAll_cons r0
  obtain ⟨rfl, rfl, rfl⟩ := trodAll_nil r1
  obtain rfl : args = #[v0, v1] := by cases args; simp_all
  obtain ⟨rfl, rfl⟩ := trodVars_none hV
  obtain ⟨a0, len0, cap0, rfl⟩ := okWide_slice Tryd.underlying35 (hval 0 35 v0 rfl rfl)
  obtain ⟨a1, len1, cap1, rfl⟩ := okWide_slice Tryd.underlying58 (hval 1 58 v1 rfl rfl)
  have lt0 : ∀ x ∈ p0, x.block < W.heap.size := by obtain ⟨m, hm⟩ := h0; exact DataW.trod_lt m _ _ _ hm
  have lt1 : ∀ x ∈ p1, x.block < W.heap.size := by obtain ⟨m, hm⟩ := h1; exact DataW.trod_lt m _ _ _ hm
  obtain ⟨f, hl0, hI⟩ := open_posts h0
  obtain ⟨z, hl1, hZ⟩ := open_marks h1
  clear hA0 hval0
  refine (order_walk a0 a1 len0 cap0 len1 cap1 hl0 hl1 f z W hI hZ (areas_of_laid2 hL) (handle_of_laid2 hL)).mono fun e W' ⟨he, bel⟩ => ?_
  subst he
  exact ⟨_, rfl, _, _, _, [], _, [], hW', trodAll_mk1 (shut_bool Tryd.underlying4 _), (trodAll_cons_mk (Below.trod laidOut (by kernel_rfl) (of_decide_eq_true (by kernel_rfl)) h0 bel lt0) (trodAll_cons_mk (Below.trod laidOut (by kernel_rfl) (of_decide_eq_true (by kernel_rfl)) h1 bel lt1) trodAll_mk0)), rfl, bel.frame _, fun h => by cases h⟩

theorem busOrder_over : Rows.BusOrderSaid :=
  OpenClaim.holds_of_wide 7 Tryd.f7 rfl rfl rfl rfl rfl rfl rfl ⟨rfl, rfl, rfl, rfl, rfl⟩ rfl rfl rfl rfl rfl (by kernel_rfl) Tryd.func7 (by kernel_rfl)
    (of_decide_eq_true (by kernel_rfl)) (by unfold Func.isWrapper; first | (rw [if_pos (by decide +kernel)]; kernel_rfl) | (rw [if_neg (by decide +kernel)]; exact ⟨rfl, rfl⟩))
    (fun os started H enc _ => busOrder_lifted os started H enc)

theorem busOrder_proved : Rows.BusOrderCardSaid :=
  Claim7.holds_tied_plain_at .later [] [.handle, .data] true (true, "1531e30ffd08b99bee05882f673357eeb4cb156a6439d5bb00e1f82261768331") true
    busOrder_over (fun _ h => by cases h) (by kernel_rfl) (fun _ h => by cases h) busOrder_row_tie rfl ⟨rfl, rfl⟩ (by kernel_rfl) rfl
    (fun f fn hf hfn => by
      obtain rfl : f = 7 := Option.some.inj ((show Tryd.prog.funcNamed Rows.busOrderRow.func = some 7 by kernel_rfl).symm.trans hf) |>.symm
      obtain rfl : fn = Tryd.f7 := (Option.some.inj (Tryd.func7.symm.trans hfn)).symm
      exact ⟨by kernel_rfl, fun j t ht => by
        rw [Tryd.params7] at ht
        have hm : t ∈ [35, 58] := by simpa using Array.mem_of_getElem? ht
        have hall : ([35, 58].all fun u => !Tryd.prog.wantsStandIn u) = true := by kernel_rfl
        exact (show Tryd.prog.wantsStandIn t = false by simpa using List.all_eq_true.1 hall t hm)⟩)
    (by kernel_rfl)
#print axioms busOrder_proved
end Go.Proofs.YtcjfjkkkepjpmaaDoor
