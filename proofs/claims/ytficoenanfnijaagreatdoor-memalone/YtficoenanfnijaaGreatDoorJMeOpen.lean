/-
  A list of acts that came in, opened: what each holds, and its bytes.
-/
import Derived.Test.YtficoenanfnijaaGreatDoorJMeLoop
import Derived.ProofKit
import Derived.OpenShut
import Derived.WideShapes
import Derived.ChangeSlices
namespace Go.Proofs.YtficoenanfnijaaGreatDoor
open Go.ChangeShapes Go.WideShapes Go.ChangeAt Go.RowKit
set_option linter.unusedVariables false

theorem one_of {c0 c1 c2 c3 c4 : Value} : ((([c0, c1, c2, c3, c4] : List Value).drop 0).take 1 = [c0]) ∧ ((([c0, c1, c2, c3, c4] : List Value).drop 1).take 1 = [c1]) ∧ ((([c0, c1, c2, c3, c4] : List Value).drop 2).take 1 = [c2]) ∧ ((([c0, c1, c2, c3, c4] : List Value).drop 3).take 1 = [c3]) ∧ ((([c0, c1, c2, c3, c4] : List Value).drop 4).take 1 = [c4]) := ⟨rfl, rfl, rfl, rfl, rfl⟩
set_option maxRecDepth 100000 in
theorem open_act {H : Type} {enc : TypeId × Value → H} {W : World} {base : Nat} {held : Bool} {n : Nat} {cs : List Value} {y : DataW H × List MemPlace}
    (h : DataW.trod enc Tryz.prog W base (fun _ => true) held n 37 cs = some y) : ∃ (a : Act5) (l : List Nat), cs = a.cells.toList ∧ ActRaw W W.heap.size a l := by
  obtain ⟨xs, m, _, _, hlen, hxl, hx⟩ := DataW.trod_struct Tryz.underlying37 h
  have hC : Tryz.prog.cellsOf 37 = 5 := by kernel_rfl
  have c1 : Tryz.prog.cellsOf 3 = 1 := by kernel_rfl
  have c2 : Tryz.prog.cellsOf 35 = 1 := by kernel_rfl
  have c3 : Tryz.prog.cellsOf 28 = 1 := by kernel_rfl
  have c4 : Tryz.prog.cellsOf 5 = 1 := by kernel_rfl
  rw [hC] at hlen
  have h0 : DataW.trod enc Tryz.prog W base (fun _ => true) held m 3 ((cs.drop 0).take (Tryz.prog.cellsOf 3)) = xs[0]? := hx 0 _ rfl
  rw [c1] at h0
  have h1 : DataW.trod enc Tryz.prog W base (fun _ => true) held m 35 ((cs.drop 1).take (Tryz.prog.cellsOf 35)) = xs[1]? := hx 1 _ rfl
  rw [c2] at h1
  have h2 : DataW.trod enc Tryz.prog W base (fun _ => true) held m 3 ((cs.drop 2).take (Tryz.prog.cellsOf 3)) = xs[2]? := hx 2 _ rfl
  rw [c1] at h2
  have h3 : DataW.trod enc Tryz.prog W base (fun _ => true) held m 35 ((cs.drop 3).take (Tryz.prog.cellsOf 35)) = xs[3]? := hx 3 _ rfl
  rw [c2] at h3
  have h4 : DataW.trod enc Tryz.prog W base (fun _ => true) held m 28 ((cs.drop 4).take (Tryz.prog.cellsOf 28)) = xs[4]? := hx 4 _ rfl
  rw [c3] at h4
  have hxl5 : xs.length = 5 := hxl
  match cs, hlen with
  | [d0, d1, d2, d3, d4], _ =>
    have g0 : DataW.trod enc Tryz.prog W base (fun _ => true) held m 3 [d0] = xs[0]? := h0
    have g1 : DataW.trod enc Tryz.prog W base (fun _ => true) held m 35 [d1] = xs[1]? := h1
    have g2 : DataW.trod enc Tryz.prog W base (fun _ => true) held m 3 [d2] = xs[2]? := h2
    have g3 : DataW.trod enc Tryz.prog W base (fun _ => true) held m 35 [d3] = xs[3]? := h3
    have g4 : DataW.trod enc Tryz.prog W base (fun _ => true) held m 28 [d4] = xs[4]? := h4
    rw [List.getElem?_eq_getElem (by omega)] at g0 g1 g2 g3 g4
    obtain ⟨z0, e0, _, w0⟩ := DataW.trod_int Tryz.underlying3 g0
    obtain ⟨z1, e1, _, w1⟩ := DataW.trod_int Tryz.underlying35 g1
    obtain ⟨z2, e2, _, w2⟩ := DataW.trod_int Tryz.underlying3 g2
    obtain ⟨z3, e3, _, w3⟩ := DataW.trod_int Tryz.underlying35 g3
    have b0 := bounds_i64 w0
    have b1 := bounds_u32 w1
    have b2 := bounds_i64 w2
    have b3 := bounds_u32 w3
    simp only [List.cons.injEq, and_true] at e0 e1 e2 e3
    subst e0 e1 e2 e3
    rcases open_ints Tryz.underlying28 Tryz.underlying5 c4 g4 with ⟨hcs, _⟩ | ⟨x, l, c, zs, hcs, _, hl, hm, hz, _, hcell, hwz⟩
    · simp only [List.cons.injEq, and_true] at hcs
      subst hcs
      refine ⟨⟨z0, z1.toNat, z2, z3.toNat, none, 0, 0⟩, [], ?_, ?_⟩
      · show [Value.int .i64 z0, .int .u32 z1, .int .i64 z2, .int .u32 z3, .slice none 0 0] = [Value.int .i64 z0, .int .u32 ((z1.toNat : Nat) : Int), .int .i64 z2, .int .u32 ((z3.toNat : Nat) : Int), .slice none 0 0]
        rw [Int.toNat_of_nonneg b1.1, Int.toNat_of_nonneg b3.1]
      · exact { kd := b0, at_ := (by show z1.toNat < 4294967296; omega), k := b2, v := (by show z3.toNat < 4294967296; omega), len := rfl, cap := ⟨Nat.le_refl _, Nat.zero_le _⟩, small := fun y hy => (by cases hy), src := .inl rfl }
    · simp only [List.cons.injEq, and_true] at hcs
      subst hcs
      simp only [if_true] at hz
      have hzb : ∀ z ∈ zs, 0 ≤ z ∧ z ≤ 255 := fun z hz => bounds_u8 (hwz z hz)
      refine ⟨⟨z0, z1.toNat, z2, z3.toNat, some x, l, c⟩, (zs.take l).map Int.toNat, ?_, ?_⟩
      · show [Value.int .i64 z0, .int .u32 z1, .int .i64 z2, .int .u32 z3, .slice (some x) l c] = [Value.int .i64 z0, .int .u32 ((z1.toNat : Nat) : Int), .int .i64 z2, .int .u32 ((z3.toNat : Nat) : Int), .slice (some x) l c]
        rw [Int.toNat_of_nonneg b1.1, Int.toNat_of_nonneg b3.1]
      · refine { kd := b0, at_ := (by show z1.toNat < 4294967296; omega), k := b2, v := (by show z3.toNat < 4294967296; omega), len := (by show ((zs.take l).map Int.toNat).length = l; simp; omega), cap := ⟨hl, hm⟩, small := fun y hy => ?_, src := ?_ }
        · obtain ⟨z, hz1, rfl⟩ := List.mem_map.1 hy
          have := hzb z (List.mem_of_mem_take hz1)
          omega
        · by_cases hl0 : l = 0
          · exact .inl hl0
          · obtain ⟨sb, so, spot⟩ := x
            have hc0 := hcell 0 (by omega)
            have hspot : spot = none := by simpa [Addr.add] using World.cell?_spot hc0
            subst hspot
            refine .inr ⟨sb, so, rfl, block_lt_of_cell hc0, fun j v hj => ?_⟩
            have hjl : j < l := by
              have := (List.getElem?_eq_some_iff.1 hj).1
              simp [byteV] at this
              omega
            have hjz : j < zs.length := by omega
            have hcj := hcell j hjz
            have hb := hzb zs[j] (List.getElem_mem hjz)
            rw [Addr.add_lit] at hcj
            rw [hcj, ← hj]
            unfold byteV
            rw [List.getElem?_map, List.getElem?_map, List.getElem?_take_of_lt hjl, List.getElem?_eq_getElem hjz, List.getD_eq_getElem?_getD, List.getElem?_eq_getElem hjz]
            show some (Value.int .u8 zs[j]) = some (Value.int .u8 ((zs[j].toNat : Nat) : Int))
            rw [Int.toNat_of_nonneg hb.1]
set_option maxRecDepth 100000 in
theorem open_acts {H : Type} {enc : TypeId × Value → H} {W : World} {base : Nat} {held : Bool} {v : Value} {d : DataW H} {p : List MemPlace}
    (h : DataW.Trod enc Tryz.prog W base (fun _ => true) held 22 v d p) (hv : ∃ a len cap, v = .slice a len cap) : ∃ (sa : Option Addr) (len cap : Nat) (A : Nat → Act5) (L : Nat → List Nat), v = .slice sa len cap ∧ len ≤ cap ∧ len ≤ 9223372036854775807 ∧ ActsAt W W.heap.size sa len A L := by
  obtain ⟨a, len, cap, rfl⟩ := hv
  have hC : Tryz.prog.cellsOf 37 = 5 := by kernel_rfl
  obtain ⟨fuel, hfu⟩ := h
  rcases DataW.trod_slice Tryz.underlying22 hfu with ⟨h0, _⟩ | ⟨ad, len', cap', elems, rest, n, _, hcs, _, hb, hl, hm, hlen, hel, _, _⟩
  · simp [Value.cells] at h0
    obtain ⟨rfl, rfl, rfl⟩ := h0
    exact ⟨none, 0, 0, fun _ => ⟨0, 0, 0, 0, none, 0, 0⟩, fun _ => [], rfl, Nat.le_refl _, Nat.zero_le _, ⟨fun j hj => absurd hj (Nat.not_lt_zero _), fun j hj => absurd hj (Nat.not_lt_zero _)⟩⟩
  · simp [Value.cells] at hcs
    obtain ⟨rfl, rfl, rfl⟩ := hcs
    have each : ∀ j, j < len → ∃ (al : Act5 × List Nat), (∃ b o, ad = ⟨b, o, none⟩ ∧ b < W.heap.size ∧ ∀ i v, al.1.cells[i]? = some v → W.cell? ⟨b, o + j * 5 + i, none⟩ = some v) ∧ ActRaw W W.heap.size al.1 al.2 := by
      intro j hj
      have h1 := hel j hj
      have hxj : j < elems.length := by omega
      rw [List.getElem?_eq_getElem hxj, hC] at h1
      rw [Option.bind_eq_some_iff] at h1
      obtain ⟨cs, h2, h3⟩ := h1
      obtain ⟨a, l, hca, hra⟩ := open_act h3
      obtain ⟨_, hln, hcell⟩ := World.cells?_some h2
      have hc0 := hcell 0 (by omega)
      have e0 : cs[0]? = some (.int .i64 a.kd) := by rw [hca]; rfl
      rw [e0] at hc0
      have hsp : ad.spot = none := by
        have k1 := hel 0 (by omega)
        rw [List.getElem?_eq_getElem (by omega), hC] at k1
        rw [Option.bind_eq_some_iff] at k1
        obtain ⟨cs', k2, k3⟩ := k1
        obtain ⟨a', l', kca, _⟩ := open_act k3
        obtain ⟨_, _, kcell⟩ := World.cells?_some k2
        have kc0 := kcell 0 (by omega)
        have f0 : cs'[0]? = some (.int .i64 a'.kd) := by rw [kca]; rfl
        rw [f0] at kc0
        have := World.cell?_spot kc0
        simpa [Addr.add] using this
      obtain ⟨b, o, spot⟩ := ad
      simp only at hsp
      subst hsp
      refine ⟨(a, l), ⟨b, o, rfl, ?_, fun i v hv => ?_⟩, hra⟩
      · rw [Addr.add_lit, Addr.add_lit] at hc0
        exact block_lt_of_cell hc0
      · have hi : i < 5 := by
          have := (Array.getElem?_eq_some_iff.1 hv).1
          simpa [Act5.cells] using this
        have hc := hcell i hi
        rw [Addr.add_lit, Addr.add_lit] at hc
        rw [hc, hca, ← hv, Array.getElem?_toList]
    refine ⟨some ad, len, cap, fun j => if h : j < len then (each j h).choose.1 else ⟨0, 0, 0, 0, none, 0, 0⟩, fun j => if h : j < len then (each j h).choose.2 else [], rfl, hl, by unfold maxLen at hm; omega, ⟨fun j hj => ?_, fun j hj => ?_⟩⟩
    · obtain ⟨⟨b, o, e, hlt, hc⟩, hw⟩ := (each j hj).choose_spec
      refine ⟨b, o, by rw [e], hlt, fun i v hv => hc i v ?_⟩
      simpa [hj] using hv
    · have hw := (each j hj).choose_spec.2
      simpa [hj] using hw
end Go.Proofs.YtficoenanfnijaaGreatDoor
