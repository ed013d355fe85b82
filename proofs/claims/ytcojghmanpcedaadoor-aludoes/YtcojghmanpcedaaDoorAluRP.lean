/-
  What the document's Parts answers, as plain numbers.
-/
import Derived.Test.YtcojghmanpcedaaDoorAluRW
import Derived.Laws.BitsAllLaws
namespace Go.Proofs.YtcojghmanpcedaaDoor
open Go.RowKit
set_option linter.unusedVariables false
set_option maxRecDepth 100000

theorem low_bit (u k : Nat) (hu : u ≤ 4294967296) : bits BinOp.and IntKind.u64 ((u : Int) / 2 ^ k) 1 = ((u / 2 ^ k % 2 : Nat) : Int) := by
  have h : u / 2 ^ k ≤ u := Nat.div_le_self _ _
  have e : ((u : Int) / 2 ^ k) = ((u / 2 ^ k : Nat) : Int) := by simp
  rw [e]
  have := u64_and_nat (u / 2 ^ k) 1 (by omega) (by decide)
  rw [Nat.and_one_is_mod] at this
  exact this

theorem w64_in (x : Int) (h1 : -9223372036854775808 ≤ x) (h2 : x ≤ 9223372036854775807) : wrap64 x = x := by unfold wrap64; omega

theorem minus_a {p q : Prop} [Decidable p] [Decidable q] (h : (!(decide p == decide q)) = false) (hp : p) (hq : ¬ q) : False := by simp [hp, hq] at h
theorem minus_b {p q : Prop} [Decidable p] [Decidable q] (h : (!(decide p == decide q)) = false) (hp : ¬ p) (hq : q) : False := by simp [hp, hq] at h
theorem minus_c {p q : Prop} [Decidable p] [Decidable q] (h : (!(decide p == decide q)) = true) (hp : p) (hq : q) : False := by simp [hp, hq] at h

theorem parts_step (u v c Q R q r : Nat) (hv : v ≤ 4294967296) (hc : c ≤ 1) (hlt : R < v)
    (hq : q = if v ≤ 2 * R + c then 2 * Q + 1 else 2 * Q) (hr : r = if v ≤ 2 * R + c then 2 * R + c - v else 2 * R + c) :
    ((v : Int) ≤ wrap64 (2 * (R : Int) + wrap64 (c : Int)) → (2 * (Q : Int) + 1) = (q : Int) ∧ wrap64 (wrap64 (2 * (R : Int) + wrap64 (c : Int)) - v) = (r : Int)) ∧
    (wrap64 (2 * (R : Int) + wrap64 (c : Int)) < (v : Int) → (2 * (Q : Int)) = (q : Int) ∧ wrap64 (2 * (R : Int) + wrap64 (c : Int)) = (r : Int)) := by
  rw [w64_in (c : Int) (by omega) (by omega), w64_in (2 * (R : Int) + (c : Int)) (by omega) (by omega)]
  constructor
  · intro h
    rw [if_pos (by omega)] at hq hr
    rw [w64_in (2 * (R : Int) + (c : Int) - v) (by omega) (by omega)]
    omega
  · intro h
    rw [if_neg (by omega)] at hq hr
    omega

theorem parts_round (u v k Q R : Nat) (hu : u ≤ 4294967296) (hv : v ≤ 4294967296) (h1 : 1 ≤ v) (hQ : u / 2 ^ (k + 1) / v = Q) (hR : u / 2 ^ (k + 1) % v = R) :
    ((v : Int) ≤ wrap64 (2 * (R : Int) + wrap64 (bits BinOp.and IntKind.u64 ((u : Int) / 2 ^ k) 1)) → (2 * (Q : Int) + 1) = ((u / 2 ^ k / v : Nat) : Int) ∧ wrap64 (wrap64 (2 * (R : Int) + wrap64 (bits BinOp.and IntKind.u64 ((u : Int) / 2 ^ k) 1)) - v) = ((u / 2 ^ k % v : Nat) : Int)) ∧
    (wrap64 (2 * (R : Int) + wrap64 (bits BinOp.and IntKind.u64 ((u : Int) / 2 ^ k) 1)) < (v : Int) → (2 * (Q : Int)) = ((u / 2 ^ k / v : Nat) : Int) ∧ wrap64 (2 * (R : Int) + wrap64 (bits BinOp.and IntKind.u64 ((u : Int) / 2 ^ k) 1)) = ((u / 2 ^ k % v : Nat) : Int)) := by
  rw [low_bit u k hu]
  have hd := down_step u k
  have hc : u / 2 ^ k % 2 ≤ 1 := Nat.le_of_lt_succ (Nat.mod_lt _ (by decide))
  have hr := div_round (u / 2 ^ (k + 1)) v (u / 2 ^ k % 2) h1 hc
  rw [← hd, hQ, hR] at hr
  have hlt : R < v := by rw [← hR]; exact Nat.mod_lt _ h1
  exact parts_step u v _ Q R _ _ hv hc hlt hr.1 hr.2

set_option maxHeartbeats 400000 in
theorem refparts_zero (a : Nat) (ha : a < 4294967296) (s : Bool) (w : World) :
    Calls Tryd.prog 17 #[.int .u32 a, .int .u32 0, .bool s] w fun e w' => e = .returned (.tuple #[.int .u32 4294967295, .int .u32 a]) ∧ w' = w := by
  go_enter Tryd.func17, Tryd.ntmps17
  go_wp2
  go_ret2
  exact ⟨rfl, rfl⟩

set_option maxHeartbeats 4000000 in
theorem refparts_at (a b u v : Nat) (ha : a < 4294967296) (hb : b < 4294967296) (h0 : 1 ≤ b) (hu : u ≤ 4294967296) (hv : v ≤ 4294967296) (h1 : 1 ≤ v) (s : Bool) (qq rr : Nat)
    (hs : (s = false ∧ u = a ∧ v = b ∧ wordN ((u / v : Nat) : Int) = qq ∧ wordN ((u % v : Nat) : Int) = rr)
      ∨ (s = true ∧ sgn a = (u : Int) ∧ sgn b = (v : Int) ∧ wordN ((u / v : Nat) : Int) = qq ∧ wordN ((u % v : Nat) : Int) = rr)
      ∨ (s = true ∧ sgn a = -(u : Int) ∧ 1 ≤ u ∧ sgn b = (v : Int) ∧ wordN (-((u / v : Nat) : Int)) = qq ∧ wordN (-((u % v : Nat) : Int)) = rr)
      ∨ (s = true ∧ sgn a = (u : Int) ∧ sgn b = -(v : Int) ∧ wordN (-((u / v : Nat) : Int)) = qq ∧ wordN ((u % v : Nat) : Int) = rr)
      ∨ (s = true ∧ sgn a = -(u : Int) ∧ 1 ≤ u ∧ sgn b = -(v : Int) ∧ wordN ((u / v : Nat) : Int) = qq ∧ wordN (-((u % v : Nat) : Int)) = rr)) (w : World) :
    Calls Tryd.prog 17 #[.int .u32 a, .int .u32 b, .bool s] w fun e w' => e = .returned (.tuple #[.int .u32 (qq : Nat), .int .u32 (rr : Nat)]) ∧ w' = w := by
  have HS := hide (fun (v : Nat) (hv : v < 4294967296) (x : Int) (hx : sgn v = x) (w : World) => (hx ▸ signed_any v hv w : Calls Tryd.prog 20 #[.int .u32 v] w fun e w' => e = .returned (.int .i64 x) ∧ w' = w))
  have HW := hide word_any
  have hQ1 : u / v ≤ u := Nat.div_le_self _ _
  have hR1 : u % v < v := Nat.mod_lt _ (by omega)
  have HR := hide (fun k Q R hQ hR => parts_round u v k Q R hu hv h1 hQ hR)
  have HQ0 : Hid (u / 2 ^ 0 / v = u / v) := by show _ = _; simp
  have HR0 : Hid (u / 2 ^ 0 % v = u % v) := by show _ = _; simp
  have HSq : Hid (u / 2 ^ 33 / v = 0) := by show _ = _; rw [Nat.div_eq_of_lt (show u < 2 ^ 33 by omega)]; simp
  have HSr : Hid (u / 2 ^ 33 % v = 0) := by show _ = _; rw [Nat.div_eq_of_lt (show u < 2 ^ 33 by omega)]; simp
  generalize u / v = Q0 at *
  generalize u % v = R0 at *
  rcases hs with ⟨rfl, rfl, rfl, rfl, rfl⟩ | ⟨rfl, sa, sb, rfl, rfl⟩ | ⟨rfl, sa, hu1, sb, rfl, rfl⟩ | ⟨rfl, sa, sb, rfl, rfl⟩ | ⟨rfl, sa, hu1, sb, rfl, rfl⟩
  all_goals
    go_enter Tryd.func17, Tryd.ntmps17
    go_wp2_with (first | (go_at_call 20; refine (HS.out _ (by assumption) _ (by assumption) _).mono ?_; rintro e w' ⟨rfl, rfl⟩))
    go_loop [13, 14, 15] (fun q r i => ∃ k : Nat, k ≤ 33 ∧ i = .int .i64 ((k : Int) - 1) ∧ q = .int .i64 ((u / 2 ^ k / v : Nat) : Int) ∧ r = .int .i64 ((u / 2 ^ k % v : Nat) : Int)) (fun _ _ i => (intOf i + 1).toNat)
    case atStart => exact ⟨33, Nat.le_refl _, rfl, by rw [HSq.out]; rfl, by rw [HSr.out]; rfl⟩
    case round =>
      obtain ⟨k, hk, rfl, rfl, rfl⟩ := hrel
      cases k with
      | zero =>
        rw [HQ0.out, HR0.out]
        clear HS HR HSq HSr HQ0 HR0
        go_wp2_with (first | (go_at_call 18; refine (HW.out _ (by omega) (by omega) _).mono ?_; rintro e w' ⟨rfl, rfl⟩))
        all_goals first
          | (exfalso; exact minus_a (by assumption) (by omega) (by omega))
          | (exfalso; exact minus_b (by assumption) (by omega) (by omega))
          | (exfalso; exact minus_c (by assumption) (by omega) (by omega))
          | (go_ret2; exact ⟨rfl, rfl⟩)
      | succ k =>
        have hd : u / 2 ^ (k + 1) / v ≤ u / 2 ^ (k + 1) := Nat.div_le_self _ _
        have hd2 : u / 2 ^ (k + 1) ≤ u := Nat.div_le_self _ _
        have hm : u / 2 ^ (k + 1) % v < v := Nat.mod_lt _ (by omega)
        have hk' : k ≤ 32 := by omega
        have HRk := hide (HR.out k _ _ rfl rfl)
        have hQ2 : u / 2 ^ (k + 1) / v ≤ u := Nat.le_trans hd hd2
        clear HS HR HSq HSr HQ0 HR0 HW hd hd2
        generalize u / 2 ^ (k + 1) / v = Q at *
        generalize u / 2 ^ (k + 1) % v = R at *
        go_wp2
        · rename_i hcmp
          obtain ⟨e1, e2⟩ := HRk.out.1 hcmp
          go_round
          case rel => exact ⟨k, by omega, rfl, by rw [e1], by rw [e2]⟩
          case measure => simp [intOf]
        · rename_i hcmp
          obtain ⟨e1, e2⟩ := HRk.out.2 hcmp
          go_round
          case rel => exact ⟨k, by omega, rfl, by rw [e1], by rw [e2]⟩
          case measure => simp [intOf]

theorem refparts_any (a b : Nat) (ha : a < 4294967296) (hb : b < 4294967296) (s : Bool) (w : World) :
    Calls Tryd.prog 17 #[.int .u32 a, .int .u32 b, .bool s] w fun e w' => e = .returned (.tuple #[.int .u32 (quoN a b s : Nat), .int .u32 (remN a b s : Nat)]) ∧ w' = w := by
  by_cases h0 : b = 0
  · subst h0
    have e1 : quoN a 0 s = 4294967295 := by unfold quoN; rw [if_pos rfl]
    have e2 : remN a 0 s = a := by unfold remN; rw [if_pos rfl]
    rw [e1, e2]
    exact refparts_zero a ha s w
  · have hz : asInt b s ≠ 0 := fun h => h0 ((asInt_zero b hb s).1 h)
    have a1 := asInt_lo a ha s
    have a2 := asInt_hi a ha s
    have b1 := asInt_lo b hb s
    have b2 := asInt_hi b hb s
    have eq : quoN a b s = wordN ((asInt a s).tdiv (asInt b s)) := by unfold quoN wordN; rw [if_neg h0]
    have er : remN a b s = wordN ((asInt a s).tmod (asInt b s)) := by unfold remN wordN; rw [if_neg h0]
    rw [tdiv_doc] at eq
    rw [tmod_doc] at er
    refine refparts_at a b (asInt a s).natAbs (asInt b s).natAbs ha hb (by omega) (by omega) (by omega) (by omega) s _ _ ?_ w
    cases s with
    | false =>
      have na : ¬ (asInt a false < 0) := by show ¬ ((a : Int) < 0); omega
      have nb : ¬ (asInt b false < 0) := by show ¬ ((b : Int) < 0); omega
      exact .inl ⟨rfl, rfl, rfl, by rw [eq, if_neg (by rw [decide_eq_false na, decide_eq_false nb]; decide)], by rw [er, if_neg na]⟩
    | true =>
      have ea : asInt a true = sgn a := rfl
      have eb : asInt b true = sgn b := rfl
      rw [ea, eb] at eq er
      rw [eb] at hz b1 b2
      rw [ea] at a1 a2
      rw [ea, eb]
      right
      by_cases hx : sgn a < 0 <;> by_cases hy : sgn b < 0
      · right; right; right
        exact ⟨rfl, by omega, by omega, by omega, by rw [eq, if_neg (by rw [decide_eq_true hx, decide_eq_true hy]; decide)], by rw [er, if_pos hx]⟩
      · right; left
        exact ⟨rfl, by omega, by omega, by omega, by rw [eq, if_pos (by rw [decide_eq_true hx, decide_eq_false hy]; rfl)], by rw [er, if_pos hx]⟩
      · right; right; left
        exact ⟨rfl, by omega, by omega, by rw [eq, if_pos (by rw [decide_eq_false hx, decide_eq_true hy]; rfl)], by rw [er, if_neg hx]⟩
      · left
        exact ⟨rfl, by omega, by omega, by rw [eq, if_neg (by rw [decide_eq_false hx, decide_eq_false hy]; decide)], by rw [er, if_neg hx]⟩
end Go.Proofs.YtcojghmanpcedaaDoor
