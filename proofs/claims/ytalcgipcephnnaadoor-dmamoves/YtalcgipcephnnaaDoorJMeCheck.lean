/-
  What word.checkPlace and word.Get answer where the place may be.
-/
import Derived.Test.YtalcgipcephnnaaDoorJMeGet
namespace Go.Proofs.YtalcgipcephnnaaDoor
open Go.RowKit Go.Shelf
set_option linter.unusedVariables false
attribute [local go_sem] Oper.semAt_some

set_option maxHeartbeats 400000 in
theorem check_ok (size at_ n : Int) (hs : 0 ≤ size) (hs2 : size ≤ 9223372036854775807) (hn : n = 1 ∨ n = 2 ∨ n = 4) (h0 : 0 ≤ at_) (h1 : at_ ≤ size - n) (h2 : at_ % n = 0) (w : World) :
    Calls Tryd.prog 69 #[.int .i64 size, .int .i64 at_, .int .i64 n] w fun e w' => e = .returned .nilIface ∧ w' = w := by
  rcases hn with rfl | rfl | rfl
  · go_enter Tryd.func69, Tryd.ntmps69
    go_wp2
    go_ret
    exact ⟨rfl, rfl⟩
  · go_enter Tryd.func69, Tryd.ntmps69
    go_wp2
    go_ret
    exact ⟨rfl, rfl⟩
  · go_enter Tryd.func69, Tryd.ntmps69
    go_wp2
    go_ret
    exact ⟨rfl, rfl⟩

/-- The number of what has come. -/
def accN (pre : List Pair) : Nat := pre.foldl (fun s x => s * 256 % 4294967296 ||| x.2.toNat) 0
theorem accN_snoc (pre : List Pair) (x : Pair) : accN (pre ++ [x]) = (accN pre * 256 % 4294967296 ||| x.2.toNat) := by simp [accN]
theorem accN_lt (pre : List Pair) : accN pre < 4294967296 := by
  rcases List.eq_nil_or_concat pre with rfl | ⟨l, x, rfl⟩
  · decide
  · rw [List.concat_eq_append, accN_snoc]
    have : x.2.toNat < 256 := x.2.toNat_lt
    exact Nat.or_lt_two_pow (n := 32) (Nat.mod_lt _ (by decide)) (by omega)
theorem acc_arith (pre : List Pair) (x : Pair) : bits .or .u32 ((accN pre : Int) * 256 % 4294967296) (x.2.toNat : Int) = ((accN (pre ++ [x]) : Nat) : Int) := by
  rw [accN_snoc]
  have h1 : ((accN pre : Int) * 256 % 4294967296) = ((accN pre * 256 % 4294967296 : Nat) : Int) := by simp
  have : x.2.toNat < 256 := x.2.toNat_lt
  rw [h1, u32_or_nat _ _ (Nat.mod_lt _ (by decide)) (by omega)]

def getN (g : Nat → UInt8) (at_ n : Nat) : Nat := accN (upto (downAt (fun j => g (at_ + j)) n) n)

set_option maxRecDepth 100000 in
set_option maxHeartbeats 2000000 in
theorem get_wide (b off len cap : Nat) (g : Nat → UInt8) (at_ n : Nat) (hn : n = 1 ∨ n = 2 ∨ n = 4) (hal : at_ % n = 0) (hfit : at_ + n ≤ len) (hcap : len ≤ cap) (hmax : len ≤ 140737488351232) (hcm : cap ≤ 9223372036854775807) (w : World) (hb : b < w.heap.size)
    (hc : ∀ j, j < len → w.cell? ⟨b, off + j, none⟩ = some (.int .u8 ((g j).toNat : Int))) :
    CallsIn Fence.wide 3 Tryd.prog 79 #[.slice (some ⟨b, off, none⟩) len cap, .int .i64 at_, .int .i64 n] w fun e W' => e = .returned (.tuple #[.int .u32 (getN g at_ n : Nat), .nilIface]) ∧ Below w.heap.size w W' := by
  have h1 : 1 ≤ 3 := by omega
  have hro : Fence.wide.round = none := rfl
  have hn4 : n ≤ 4 := by omega
  have hn1 : 1 ≤ n := by omega
  have hck := check_ok (len : Int) (at_ : Int) (n : Int) (by omega) (by omega) (by omega) (by omega) (by omega) (by omega)
  have HK : Hid (_) := hck
  clear hck
  refine callsIn_of_wp_marks Tryd.func79 rfl trivial ?_ hro
  simp only [Tryd.ntmps79, List.size_toArray, List.length_cons, List.length_nil, Nat.reduceAdd, Nat.reduceSub, Array.replicate_succ, Array.replicate_zero, List.push_toArray, List.append_toArray, List.nil_append, List.cons_append]
  gi_wp2_with (first | (refine ⟨trivial, ?_⟩; gi_at_call 69; refine (callsIn_wide.2 (HK.out _)).mono ?_; rintro e w' ⟨rfl, rfl⟩) | (refine ⟨trivial, ?_⟩; gi_at_call 84; refine (backward_in Fence.wide _ trivial hro _ _ _ _).mono ?_; rintro e w' ⟨rfl, rfl⟩))
  have bS := Boxed.new w' 22 (.int .u32 0)
  have bN := Boxed.new (w'.alloc (.cells #[.int .u32 0] 22)) 43 (.slice (some ⟨b, off + at_, none⟩) n (cap - at_))
  rw [World.size_alloc] at bN
  have hB0 : Below w'.heap.size w' ((w'.alloc (.cells #[.int .u32 0] 22)).alloc (.cells #[.slice (some ⟨b, off + at_, none⟩) n (cap - at_)] 43)) := ((Below.refl _ w').alloc (Nat.le_refl _) _).alloc (by simp) _
  refine wpIn_rangeFunc_ownG hro h1 (gf := 89) (lb := #[.pointer (some ⟨w'.heap.size + 1, 0, none⟩)]) rfl trivial (enters_of Tryd.func89 (by kernel_rfl) rfl)
    (backward_stops Fence.wide (3 - 1) trivial hro (by omega) (w'.heap.size + 1) w'.heap.size b (off + at_) n (cap - at_) (fun j => g (at_ + j)) (by omega) hb _ (by simp) (by simp; omega) bN.cell
      (fun j hj => (hB0.cell (p := ⟨b, off + at_ + j, none⟩) hb).trans (by rw [show off + at_ + j = off + (at_ + j) by omega]; exact hc (at_ + j) (by omega)))) KeepB.trans (KeepB.put (by simp; omega) (by simp)) (Below.refl _ _) (fun _ => rfl)
    (fun pre W => (W.cell? ⟨w'.heap.size, 0, none⟩ = some (.int .u32 (accN pre : Nat)) ∧ W.frozen? ⟨w'.heap.size, 0, none⟩ = false) ∧ Below w'.heap.size w' W)
    (fun _ _ _ => False)
    (OwnFrom.and (Own.from (fun s A B row hs hg hr => ⟨cell_kept hs.1 hg hr, (frozen_kept hs.1 hg hr).trans hs.2⟩) _) (ownFrom_below (Nat.le_refl _) (by simp; omega)))
    (fun _ _ _ _ _ hs _ _ => hs)
    ⟨⟨(bS.alloc _).cell, (bS.alloc _).frozen⟩, hB0⟩
    (fun x => { tmps := #[.slice (some ⟨b, off, none⟩) len cap, .int .i64 at_, .int .i64 n, undef, undef, undef, .int .u32 0, .nilIface, .nilIface, .pointer (some ⟨w'.heap.size, 0, none⟩), undef, .int .u8 (x.2.toNat : Int),
        .slice (some ⟨b, off, none⟩) len cap, .int .i64 len, .int .i64 at_, .int .i64 n, .nilIface, .nilIface, .bool false, undef, .slice (some ⟨b, off, none⟩) len cap, .int .i64 at_, .int .i64 at_, .int .i64 n, .int .i64 ((at_ : Int) + n),
        .slice (some ⟨b, off + at_, none⟩) n (cap - at_), .func (.func 89) #[] #[.pointer (some ⟨w'.heap.size + 1, 0, none⟩)], .int .i64 (x.1 : Int), .int .u8 (x.2.toNat : Int), undef, undef, undef, undef, undef, undef], defers := [] }) ?assign ?body ?done ?stop
  case assign =>
    intro l x W K hK
    gi_wp2
    exact hK
  case body =>
    rintro l pre x W ⟨⟨hcv, hf⟩, hB⟩ _
    have hlt := accN_lt pre
    have hx : x.2.toNat < 256 := x.2.toNat_lt
    have HA : Hid (_) := acc_arith pre x
    generalize accN pre = y at *
    clear hc
    gi_wp2
    exact ⟨(KeepsOthers.setCell _ _ _).from _, ⟨(Below.refl w'.heap.size W).setCell (p := ⟨w'.heap.size, 0, none⟩) (Nat.le_refl _) _, heap_setCell_other _ _ _ _ (by simp)⟩,
      ⟨by rw [← HA.out]; exact World.cell?_setCell_same' _ _ _ (by rw [hcv]; rfl), by rw [World.frozen?_setCell]; exact hf⟩, hB.setCell (p := ⟨w'.heap.size, 0, none⟩) (Nat.le_refl _) _⟩
  case done =>
    rintro D ys W hD rfl ⟨⟨hcv, _⟩, hB⟩ hK
    gi_wp2
    refine ⟨by simp, .inl ⟨_, _, rfl, run_takeDeferred hK, ?_⟩⟩
    refine ⟨.tuple #[.int .u32 (getN g at_ n : Nat), .nilIface], ?_, rfl, hB.trans (belowK_b (w := w') (Nat.le_refl _) W D _ _ (by simp at hD; omega) hK rfl rfl)⟩
    simp [results, Tryd.results79, go_sem, getN]
  case stop =>
    rintro D c pre W _ _ h _
    exact h.elim

theorem get_any (b off len cap : Nat) (g : Nat → UInt8) (at_ n : Nat) (hn : n = 1 ∨ n = 2 ∨ n = 4) (hal : at_ % n = 0) (hfit : at_ + n ≤ len) (hcap : len ≤ cap) (hmax : len ≤ 140737488351232) (hcm : cap ≤ 9223372036854775807) (w : World) (hb : b < w.heap.size)
    (hc : ∀ j, j < len → w.cell? ⟨b, off + j, none⟩ = some (.int .u8 ((g j).toNat : Int))) :
    Calls Tryd.prog 79 #[.slice (some ⟨b, off, none⟩) len cap, .int .i64 at_, .int .i64 n] w fun e W' => e = .returned (.tuple #[.int .u32 (getN g at_ n : Nat), .nilIface]) ∧ Below w.heap.size w W' :=
  callsIn_wide.1 (get_wide b off len cap g at_ n hn hal hfit hcap hmax hcm w hb hc)

def four (j : Nat) : UInt8 := if j = 0 then 1 else if j = 1 then 2 else if j = 2 then 3 else 4
end Go.Proofs.YtalcgipcephnnaaDoor
