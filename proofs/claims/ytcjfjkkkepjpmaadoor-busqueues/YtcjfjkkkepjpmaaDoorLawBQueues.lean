/-
  BusQueues: any queue with any write more, or the oldest less, or the errors: as the document's; the queue stays; what must come whatever the input is comes; the arguments stay. The one condition: errors.errorType and the bus's map read as the program's text lays them, to which the card ties them.
-/
import Derived.Test.YtcjfjkkkepjpmaaDoorBuQuW
import Derived.Test.YtcjfjkkkepjpmaaDoorFlatRows
namespace Go.Proofs.YtcjfjkkkepjpmaaDoor
open Go.ChangeShapes Go.WideShapes Go.ChangeAt Go.RowKit
set_option linter.unusedVariables false

theorem laidOut : laidOutB Tryd.prog = true := by kernel_rfl

set_option maxRecDepth 100000 in
theorem open_posts {H : Type} {enc : TypeId × Value → H} {W : World} {base : Nat} {spare : Nat → Bool} {held : Bool} {a : Option Addr} {len cap : Nat} {d : DataW H} {p : List MemPlace}
    (h : DataW.Trod enc Tryd.prog W base spare held 35 (.slice a len cap) d p) : ∃ f : Nat → Pst, len ≤ 9223372036854775807 ∧ ArgAt a len f W := by
  obtain ⟨h1, h2, g, hg⟩ := open_rows (ks := [.i64, .u32, .i64, .u32]) Tryd.underlying35 Tryd.underlying39 (by kernel_rfl) (by decide) (by
    intro i f hf
    match i, hf with
    | 0, hf => cases hf; exact ⟨Tryd.underlying3, by kernel_rfl, rfl⟩
    | 1, hf => cases hf; exact ⟨Tryd.underlying22, by kernel_rfl, rfl⟩
    | 2, hf => cases hf; exact ⟨Tryd.underlying3, by kernel_rfl, rfl⟩
    | 3, hf => cases hf; exact ⟨Tryd.underlying22, by kernel_rfl, rfl⟩
    | n + 4, hf => simp at hf) h
  refine ⟨fun j => ⟨g j 0, (g j 1).toNat, g j 2, (g j 3).toNat⟩, by unfold maxLen at h2; omega, fun j hj => ?_⟩
  obtain ⟨⟨b, o, e, hc⟩, hw⟩ := hg j hj
  have b1 := bounds_u32 (hw 1 (by decide))
  have b3 := bounds_u32 (hw 3 (by decide))
  have k0 : W.cell? ⟨b, o + j * 4, none⟩ = some (.int .i64 (g j 0)) := hc 0 (by decide)
  have k1 : W.cell? ⟨b, o + j * 4 + 1, none⟩ = some (.int .u32 (g j 1)) := hc 1 (by decide)
  have k2 : W.cell? ⟨b, o + j * 4 + 2, none⟩ = some (.int .i64 (g j 2)) := hc 2 (by decide)
  have k3 : W.cell? ⟨b, o + j * 4 + 3, none⟩ = some (.int .u32 (g j 3)) := hc 3 (by decide)
  refine ⟨⟨?_, ?_⟩, b, o, e, block_lt_of_cell k0, k0, ?_, k2, ?_⟩
  · show (g j 1).toNat < 4294967296; omega
  · show (g j 3).toNat < 4294967296; omega
  · show _ = some (Value.int .u32 (((g j 1).toNat : Nat) : Int)); rw [k1, Int.toNat_of_nonneg b1.1]
  · show _ = some (Value.int .u32 (((g j 3).toNat : Nat) : Int)); rw [k3, Int.toNat_of_nonneg b3.1]

theorem posts_list {a : Option Addr} {len : Nat} {f : Nat → Pst} {W : World} (h : ArgAt a len f W) : RQAt W a ((List.range len).map f) := by
  refine ⟨fun q hq => ?_, ?_⟩
  · obtain ⟨j, hj, rfl⟩ := List.mem_map.1 hq
    exact (h j (List.mem_range.1 hj)).1
  · by_cases h0 : len = 0
    · exact .inl (by rw [h0]; rfl)
    · obtain ⟨_, b, o, e, _⟩ := h 0 (by omega)
      refine .inr ⟨b, o, e, fun j q hq => ?_⟩
      rw [List.getElem?_map] at hq
      obtain ⟨i, hi, rfl⟩ := Option.map_eq_some_iff.1 hq
      obtain ⟨hlt, rfl⟩ : j < len ∧ j = i := by
        obtain ⟨h1, h2⟩ := List.getElem?_eq_some_iff.1 hi
        simp at h1 h2
        exact ⟨h1, h2⟩
      obtain ⟨_, b', o', e', _, k0, k1, k2, k3⟩ := h j hlt
      rw [e] at e'
      cases e'
      exact ⟨k0, k1, k2, k3⟩
set_option maxRecDepth 100000 in
theorem open_queue {H : Type} {enc : TypeId × Value → H} {W : World} {base b0 : Nat} {spare : Nat → Bool} {held : Bool} {r : Reach} {v : Value} {d : DataW H} {p : List MemPlace}
    (hv : Value.okWide Tryd.prog W r b0 37 v) (h : DataW.Trod enc Tryd.prog W base spare held 37 v d p) :
    ∃ a len cap f, v = .agg #[.slice a len cap] ∧ len ≤ cap ∧ len ≤ 9223372036854775807 ∧ ArgAt a len f W := by
  have hC : Tryd.prog.cellsOf 37 = 1 := by kernel_rfl
  have hS : Tryd.prog.cellsOf 35 = 1 := by kernel_rfl
  simp only [Value.okWide, Tryd.underlying37] at hv
  obtain ⟨cs, rfl, hsz, _⟩ := hv
  rw [hC] at hsz
  obtain ⟨c, hc⟩ : ∃ c, cs = #[c] := by
    obtain ⟨ls⟩ := cs
    match ls, hsz with
    | [c], _ => exact ⟨c, rfl⟩
  subst hc
  obtain ⟨fuel, hfu⟩ := h
  obtain ⟨y0, n, _, _, hy⟩ := trod_struct1 Tryd.underlying37 hfu
  simp only [hS] at hy
  have hy' : DataW.trod enc Tryd.prog W base spare held n 35 [c] = some y0 := hy
  obtain ⟨a, len, cap, rfl⟩ : ∃ a len cap, c = .slice a len cap := by
    rcases DataW.trod_slice Tryd.underlying35 hy' with ⟨h0, _⟩ | ⟨ad, len', cap', elems, rest, n', _, hcs, _⟩
    · simp at h0; exact ⟨_, _, _, h0⟩
    · simp at hcs; exact ⟨_, _, _, hcs⟩
  have hT : DataW.Trod enc Tryd.prog W base spare held 35 (.slice a len cap) y0.1 y0.2 := ⟨n, hy'⟩
  obtain ⟨f, hl, hA⟩ := open_posts hT
  refine ⟨a, len, cap, f, rfl, ?_, hl, hA⟩
  rcases DataW.trod_slice Tryd.underlying35 hy' with ⟨h0, _⟩ | ⟨ad, len', cap', elems, rest, n', _, hcs, _, hb, hlc, _⟩
  · simp at h0
    obtain ⟨_, rfl, rfl⟩ := h0
    exact Nat.le_refl _
  · simp at hcs
    obtain ⟨_, rfl, rfl⟩ := hcs
    exact hlc
set_option maxRecDepth 100000 in
theorem open_post {H : Type} {enc : TypeId × Value → H} {W : World} {base b0 : Nat} {spare : Nat → Bool} {held : Bool} {r : Reach} {v : Value} {d : DataW H} {p : List MemPlace}
    (hv : Value.okWide Tryd.prog W r b0 39 v) (h : DataW.Trod enc Tryd.prog W base spare held 39 v d p) :
    ∃ q : Pst, v = .agg q.cells ∧ q.Ok := by
  simp only [Value.okWide, Tryd.underlying39] at hv
  obtain ⟨cs, rfl, hsz, _⟩ := hv
  obtain ⟨fuel, hfu⟩ := h
  obtain ⟨hl, hk⟩ := open_kinds_at (ks := [.i64, .u32, .i64, .u32]) Tryd.underlying39 (by kernel_rfl) (by
    intro i f hf
    match i, hf with
    | 0, hf => cases hf; exact ⟨Tryd.underlying3, by kernel_rfl, rfl⟩
    | 1, hf => cases hf; exact ⟨Tryd.underlying22, by kernel_rfl, rfl⟩
    | 2, hf => cases hf; exact ⟨Tryd.underlying3, by kernel_rfl, rfl⟩
    | 3, hf => cases hf; exact ⟨Tryd.underlying22, by kernel_rfl, rfl⟩
    | n + 4, hf => simp at hf) hfu
  have hl' : cs.toList.length = 4 := hl
  obtain ⟨l, rfl⟩ : ∃ l : List Value, cs = l.toArray := ⟨cs.toList, by simp⟩
  simp only [Value.cells] at hk
  match l, hl' with
  | [x0, x1, x2, x3], _ =>
    obtain ⟨z0, e0, _⟩ := hk 0 (by simp)
    obtain ⟨z1, e1, w1⟩ := hk 1 (by simp)
    obtain ⟨z2, e2, _⟩ := hk 2 (by simp)
    obtain ⟨z3, e3, w3⟩ := hk 3 (by simp)
    have b1 := bounds_u32 w1
    have b3 := bounds_u32 w3
    simp at e0 e1 e2 e3
    subst e0 e1 e2 e3
    refine ⟨⟨z0, z1.toNat, z2, z3.toNat⟩, ?_, ⟨?_, ?_⟩⟩
    · show Value.agg #[.int .i64 z0, .int .u32 z1, .int .i64 z2, .int .u32 z3] = Value.agg #[.int .i64 z0, .int .u32 ((z1.toNat : Nat) : Int), .int .i64 z2, .int .u32 ((z3.toNat : Nat) : Int)]
      rw [Int.toNat_of_nonneg b1.1, Int.toNat_of_nonneg b3.1]
    · show z1.toNat < 4294967296; omega
    · show z3.toNat < 4294967296; omega

set_option maxRecDepth 100000 in
theorem busQueues_lifted (os : Os) (started : os.Started) (H : Type) (enc : TypeId × Value → H) :
    ReturnsInHanded {} Tryd.checked os 5 .any (fun w args => (Rows.busQueuesSpec.pre enc Tryd.prog Tryd.f5 [] false w args ∧ laidMetH Tryd.prog laid2 w) ∧ sizedMet enc Tryd.prog Tryd.f5 (OpenSpec.ofChange Rows.busQueuesSpec) false w args)
      (Rows.busQueuesSpec.post enc Tryd.prog Tryd.f5 false true false false) := by
  refine returnsInHanded_of_change_and (C := Tryd.checked) (X := fun w _ => laidMetH Tryd.prog laid2 w) (fun _ _ _ hh h => h.of_heap hh) own started (by kernel_rfl) Tryd.func5
    (ChangeSpec.witness_shaped (enc := enc) (C := Tryd.checked) (os := os) (X := fun w _ => laidMetH Tryd.prog laid2 w) false (World.doorLaid Tryd.prog 600 os) #[.agg #[.slice none 0 0], .agg #[.int .i64 0, .int .u32 0, .int .i64 0, .int .u32 0]] 8 rfl (World.shaped_of_RefB (by kernel_rfl) (by kernel_rfl)) (by kernel_rfl) (by kernel_rfl) (by kernel_rfl) (door2 os _)) ?_
  intro W base args ds gs before hval0 hW _ _ hL _
  have hval : ∀ (j : Nat) t v, Tryd.f5.params[j]? = some t → args[j]? = some v → Value.okWide Tryd.prog W .any base t v := hval0
  have hW' := hW
  obtain ⟨p, q, hA0, hV, rfl, hfz, hnd⟩ := hW
  have hA : DataW.TrodAll enc Tryd.prog W 0 (fun _ => true) true Tryd.f5.params.toList args.toList ds p := hA0
  rw [Tryd.params5] at hA hval
  obtain ⟨v0, vs0, d0, ds0, p0, q0, hargs, rfl, rfl, h0, r0⟩ := trodAll_cons hA
  obtain ⟨v1, vs1, d1, ds1, p1, q1, rfl, rfl, rfl, h1, r1⟩ := trodAll_cons r0
  obtain ⟨rfl, rfl, rfl⟩ := trodAll_nil r1
  obtain rfl : args = #[v0, v1] := by cases args; simp_all
  obtain ⟨rfl, rfl⟩ := trodVars_none hV
  obtain ⟨a0, len0, cap0, f, rfl, hc0, hl0, hI⟩ := open_queue (hval 0 37 v0 rfl rfl) h0
  obtain ⟨q, rfl, hqo⟩ := open_post (hval 1 39 v1 rfl rfl) h1
  have lt0 : ∀ x ∈ p0, x.block < W.heap.size := by obtain ⟨m, hm⟩ := h0; exact DataW.trod_lt m _ _ _ hm
  have lt1 : ∀ x ∈ p1, x.block < W.heap.size := by obtain ⟨m, hm⟩ := h1; exact DataW.trod_lt m _ _ _ hm
  clear hA0 hval0
  have hlen : ((List.range len0).map f).length = len0 := by simp
  have hw := queues_walk a0 ((List.range len0).map f) (by rw [hlen]; exact hl0) cap0 (by rw [hlen]; exact hc0) q hqo W (posts_list hI) (areas_of_laid2 hL) (handle_of_laid2 hL)
  rw [hlen] at hw
  refine hw.mono fun e W' ⟨he, bel⟩ => ?_
  subst he
  exact ⟨_, rfl, _, _, _, [], _, [], hW', trodAll_mk1 (shut_bool Tryd.underlying4 _), (trodAll_cons_mk (Below.trod laidOut (by kernel_rfl) (of_decide_eq_true (by kernel_rfl)) h0 bel lt0) (trodAll_cons_mk (Below.trod laidOut (by kernel_rfl) (of_decide_eq_true (by kernel_rfl)) h1 bel lt1) trodAll_mk0)), rfl, bel.frame _, fun h => by cases h⟩

theorem busQueues_over : Rows.BusQueuesSaid :=
  OpenClaim.holds_of_wide 5 Tryd.f5 rfl rfl rfl rfl rfl rfl rfl ⟨rfl, rfl, rfl, rfl, rfl⟩ rfl rfl rfl rfl rfl (by kernel_rfl) Tryd.func5 (by kernel_rfl)
    (of_decide_eq_true (by kernel_rfl)) (by unfold Func.isWrapper; first | (rw [if_pos (by decide +kernel)]; kernel_rfl) | (rw [if_neg (by decide +kernel)]; exact ⟨rfl, rfl⟩))
    (fun os started H enc _ => busQueues_lifted os started H enc)

theorem busQueues_proved : Rows.BusQueuesCardSaid :=
  Claim7.holds_tied_plain_at .later [] [.handle, .data] true (true, "1531e30ffd08b99bee05882f673357eeb4cb156a6439d5bb00e1f82261768331") true
    busQueues_over (fun _ h => by cases h) (by kernel_rfl) (fun _ h => by cases h) busQueues_row_tie rfl ⟨rfl, rfl⟩ (by kernel_rfl) rfl
    (fun f fn hf hfn => by
      obtain rfl : f = 5 := Option.some.inj ((show Tryd.prog.funcNamed Rows.busQueuesRow.func = some 5 by kernel_rfl).symm.trans hf) |>.symm
      obtain rfl : fn = Tryd.f5 := (Option.some.inj (Tryd.func5.symm.trans hfn)).symm
      exact ⟨by kernel_rfl, fun j t ht => by
        rw [Tryd.params5] at ht
        have hm : t ∈ [37, 39] := by simpa using Array.mem_of_getElem? ht
        have hall : ([37, 39].all fun u => !Tryd.prog.wantsStandIn u) = true := by kernel_rfl
        exact (show Tryd.prog.wantsStandIn t = false by simpa using List.all_eq_true.1 hall t hm)⟩)
    (by kernel_rfl)
#print axioms busQueues_proved
end Go.Proofs.YtcjfjkkkepjpmaaDoor
