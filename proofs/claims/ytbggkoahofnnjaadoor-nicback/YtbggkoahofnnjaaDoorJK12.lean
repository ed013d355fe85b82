/-
  The document's memory in a block of its own, and beside the program's.
-/
import Derived.Test.YtbggkoahofnnjaaDoorJK9
import Derived.Test.YtbggkoahofnnjaaDoorJK5
import Derived.Test.YtbggkoahofnnjaaDoorJK11
import Derived.Test.YtbggkoahofnnjaaDoorJK7
import Derived.Maps.AppendAt
import Derived.Test.YtbggkoahofnnjaaDoorJK1
namespace Go.Proofs.YtbggkoahofnnjaaDoor
open Go.RowKit
set_option linter.unusedVariables false
attribute [local go_sem ↓] Go.wp_at_zero Go.wp_at_succ

/-- An act as it is handed in. -/
structure Act5 where
  kd : Int
  at_ : Nat
  k : Int
  v : Nat
  sa : Option Addr
  L : Nat
  sc : Nat
def Act5.cells (a : Act5) : Array Value := #[.int .i64 a.kd, .int .u32 (a.at_ : Nat), .int .i64 a.k, .int .u32 (a.v : Nat), .slice a.sa a.L a.sc]
/-- Its kind. -/
def Act5.kind (a : Act5) : Nat := (a.kd % 18446744073709551616 % 9).toNat
structure ActAt (w : World) (B : Nat) (a : Act5) (l : List Nat) : Prop where
  kd : -9223372036854775808 ≤ a.kd ∧ a.kd ≤ 9223372036854775807
  at_ : a.at_ < 4294967296
  k : -9223372036854775808 ≤ a.k ∧ a.k ≤ 9223372036854775807
  v : a.v < 4294967296
  len : l.length = a.L
  few : a.L ≤ 20000
  cap : a.L ≤ a.sc ∧ a.sc ≤ maxLen
  small : ∀ y, y ∈ l → y < 256
  src : a.L = 0 ∨ ∃ sb so, a.sa = some ⟨sb, so, none⟩ ∧ sb < B ∧ ∀ j v, (byteV l)[j]? = some v → w.cell? ⟨sb, so + j, none⟩ = some v
theorem ActAt.bl {w w' : World} {B : Nat} {a : Act5} {l : List Nat} (h : ActAt w B a l) (hb : Below B w w') : ActAt w' B a l :=
  { kd := h.kd, at_ := h.at_, k := h.k, v := h.v, len := h.len, few := h.few, cap := h.cap, small := h.small,
    src := h.src.imp id (fun ⟨sb, so, e1, e2, e3⟩ => ⟨sb, so, e1, e2, fun j v hj => (hb.cell (p := ⟨sb, so + j, none⟩) e2).trans (e3 j v hj)⟩) }
/-- What one act makes of a memory. -/
structure Stepped (m m' : Mem) (b P D S : Nat) (hv : Bool) : Prop where
  n : m'.n = m.n
  wr : m'.wr ≤ m.wr + 1
  small : (∀ x, m.at x < 256) → ∀ x, m'.at x < 256
  clean : hv = false → ∀ p, m'.dirty p = false → m.dirty p = false ∧ ∀ o, o < 4096 → m'.dat p o = m.dat p o
  own1 : ∀ x, m'.owns b P D x → m.owns b P D x ∨ S ≤ x
  own2 : ∀ x, m'.z = some x → m.z = some x ∨ S ≤ x
theorem Stepped.own {m m' : Mem} {b P D S : Nat} {hv : Bool} (h : Stepped m m' b P D S hv) (x : Nat) (hx : m'.owns b P D x ∨ m'.z = some x) : (m.owns b P D x ∨ m.z = some x) ∨ S ≤ x := by
  rcases hx with h1 | h1
  · exact (h.own1 x h1).imp .inl id
  · exact (h.own2 x h1).imp .inr id
structure MOut (w w' : World) (B b P D : Nat) (m m' : Mem) (hv : Bool) : Prop where
  ram : RamAt w' B b P D m'
  kept : Kept B w w' (m.owns b P D)
  st : Stepped m m' b P D w.heap.size hv
theorem Stepped.looked {m m' : Mem} {b P D S : Nat} (h : Looked m m') (hz : m'.z = m.z ∨ ∃ x, m'.z = some x ∧ S ≤ x) : Stepped m m' b P D S false :=
  { n := h.n, wr := by rw [h.wr]; omega, small := fun hs x => (by show m'.dat _ _ < 256; rw [h.dat]; exact hs x), clean := fun _ p hp => ⟨by rw [← h.dirty]; exact hp, fun o _ => by rw [h.dat]⟩,
    own1 := fun x hx => .inl (h.owns.1 hx),
    own2 := fun x hx => by
      rcases hz with e | ⟨y, e1, e2⟩
      · exact .inl (e ▸ hx)
      · have : x = y := Option.some.inj (hx.symm.trans e1)
        exact .inr (by omega) }
theorem Looked.at {m m' : Mem} (h : Looked m m') : m'.at = m.at := by funext x; show m'.dat _ _ = m.dat _ _; rw [h.dat]
theorem Stepped.wrote {m k : Mem} {b P D S a d : Nat} {l : List Nat} (h : Wrote m k S a l d) (hl : ∀ y, y ∈ l → y < 256) : Stepped m { k with wr := k.wr + 1 } b P D S false :=
  { n := h.n, wr := (by show k.wr + 1 ≤ _; rw [h.wr]; omega), small := fun hs x => h.byte hs hl x,
    clean := fun _ p hp => by
      have hp' : k.dirty p = false := hp
      have hm : m.dirty p = false := by
        cases hd : m.dirty p with
        | false => rfl
        | true => rw [(h.dirty p).2 (.inl hd)] at hp'; cases hp'
      refine ⟨hm, fun o ho => ?_⟩
      show k.dat p o = m.dat p o
      rw [k.dat_at p o ho, m.dat_at p o ho, h.dat, if_neg]
      intro hx
      have h9 := (h.dirty p).2 (.inr ⟨p * 4096 + o, hx.1, hx.2, by omega⟩)
      rw [hp'] at h9
      exact Bool.noConfusion h9,
    own1 := fun x hx => by
      rcases hx with e | e | e | ⟨p, e1, e2⟩
      · exact .inl (.inl e)
      · exact .inl (.inr (.inl e))
      · exact .inl (.inr (.inr (.inl e)))
      · rcases h.old p x e2 with e3 | e3
        · exact .inl (.inr (.inr (.inr ⟨p, h.n ▸ e1, e3⟩)))
        · exact .inr e3,
    own2 := fun x hx => by
      have : k.z = some x := hx
      exact .inl (h.z ▸ this) }
theorem Wrote.atF {m k : Mem} {S a d : Nat} {l : List Nat} (h : Wrote m k S a l d) (hd : l.length = d) : ({ k with wr := k.wr + 1 } : Mem).at = wroteF m.at a l := by
  funext x
  show k.at x = _
  rw [h.dat x]; unfold wroteF; rw [hd]
/-- The same memory, nought beyond its pages. -/
def Mem.norm (m : Mem) : Mem := { m with dat := fun p o => if o < 4096 then m.dat p o else 0 }
theorem Mem.norm_dat (m : Mem) (p : Nat) {o : Nat} (h : o < 4096) : m.norm.dat p o = m.dat p o := if_pos h
theorem Mem.norm_at (m : Mem) : m.norm.at = m.at := by
  funext x
  exact m.norm_dat _ (Nat.mod_lt _ (by decide))
theorem Mem.norm_small {m : Mem} (h : ∀ x, m.at x < 256) (p o : Nat) : m.norm.dat p o < 256 := by
  by_cases ho : o < 4096
  · rw [m.norm_dat p ho, m.dat_at p o ho]; exact h _
  · have : m.norm.dat p o = 0 := if_neg ho
    omega
theorem RamAt.norm {w : World} {B b P D : Nat} {m : Mem} (h : RamAt w B b P D m) : RamAt w B b P D m.norm :=
  { head := h.head, zero := h.zero, pages := h.pages, marks := h.marks, bytes := fun p g hp hg => (h.bytes p g hp hg).congr (fun o ho => by rw [m.norm_dat p ho]),
    noughts := fun p hp hn o => by
      by_cases ho : o < 4096
      · rw [m.norm_dat p ho]; exact h.noughts p hp hn o
      · exact if_neg ho,
    low := h.low, apart := h.apart, alone := h.alone, few := h.few, caps := h.caps, room := h.room }
theorem Stepped.norm {m m' : Mem} {b P D S : Nat} {hv : Bool} (h : Stepped m m' b P D S hv) : Stepped m m'.norm b P D S hv :=
  { n := h.n, wr := h.wr, small := fun hs x => by rw [m'.norm_at]; exact h.small hs x, clean := fun e p hp => ⟨(h.clean e p hp).1, fun o ho => by rw [m'.norm_dat p ho]; exact (h.clean e p hp).2 o ho⟩, own1 := h.own1, own2 := h.own2 }
/-- The number of an error. -/
def errV : Int → Value := errM
/-- What a step leaves. -/
def StepOut (w : World) (B b P D N n : Nat) (m : Mem) (r : RP) (hv : Bool) (e : Ending) (w' : World) : Prop := ∃ m' r' bb, e = .returned (.tuple #[.agg (r'.v N n), .bool bb]) ∧ MOut w w' B b P D m m' hv ∧ RefAt w' N n m'.at r' ∧
  (∀ x, r'.owns x → r.owns x ∨ w.heap.size ≤ x) ∧ (∀ x, r'.owns x → ¬ (m'.owns b P D x ∨ m'.z = some x))
end Go.Proofs.YtbggkoahofnnjaaDoor
namespace Go.Proofs.YtbggkoahofnnjaaDoor
open Go.RowKit
set_option linter.unusedVariables false
attribute [local go_sem ↓] Go.wp_at_zero Go.wp_at_succ

end Go.Proofs.YtbggkoahofnnjaaDoor
namespace Go.Proofs.YtbggkoahofnnjaaDoor
open Go.RowKit
set_option linter.unusedVariables false
attribute [local go_sem ↓] Go.wp_at_zero Go.wp_at_succ

end Go.Proofs.YtbggkoahofnnjaaDoor
namespace Go.Proofs.YtbggkoahofnnjaaDoor
open Go.RowKit
set_option linter.unusedVariables false
attribute [local go_sem ↓] Go.wp_at_zero Go.wp_at_succ

set_option maxHeartbeats 1000000 in
theorem read_y {w : World} {B b P D : Nat} {m : Mem} (h : RamAt w B b P D m) (hB : B ≤ w.heap.size) (a : Nat) (ha : a < 4294967296) (N : Nat) (hl0 : 0 < N) (hin : a + N ≤ m.n * 4096) :
    Calls Tryd.prog 55 #[.pointer (some ⟨b, 0, none⟩), .int .u32 a, .int .i64 N] w fun e w' => e = .returned (.tuple #[.slice (some ⟨w.heap.size, 0, none⟩) N N, .nilIface]) ∧ HoldsAt w' w.heap.size N 5 (readV m a N) ∧
      (∃ m', Looked m m' ∧ RamAt w' B b P D m' ∧ (m'.z = m.z ∨ ∃ x, m'.z = some x ∧ w.heap.size ≤ x) ∧ ∀ x, m'.z = some x → x ≠ w.heap.size) ∧ Kept B w w' (m.owns b P D) := by
  have HHas := hide (has_some b P m.n a ha h.few (N : Int) (by omega) (by have := h.few; omega) w h.pagesAt)
  rw [decide_eq_true (show ((a : Int) + (N : Int) ≤ (m.n : Int) * 4096) by omega)] at HHas
  have hfew := h.few
  have hmk := run_make_row' (P := Tryd.prog) 22 5 (.int .u8 0) 1 Tryd.underlying22 (by kernel_rfl) rfl .i64 .i64 N (by omega) (by omega)
  have HR := hide h
  have i8 : (0 : Int) ≤ (N : Int) := by omega
  have i9 : N ≤ 67108864 := by omega
  have HZ : Hid (HoldsAt (w.alloc (.cells (madeCells #[.int .u8 0] N) 5)) w.heap.size N 5 (readV m a 0)) :=
    hide ((HoldsAt.made (RowAt.new w _ _ _ rfl)).congr (fun j _ => by rw [readV, if_neg (by omega)]))
  have HOw : Hid (∀ x, m.owns b P D x → x < w.heap.size) := hide (fun x hx => h.owned hx)
  have HZl : Hid (∀ x, m.z = some x → x ≠ w.heap.size) := hide (fun x hx => by have := h.z_lt hx; omega)
  clear h
  have HSp : Hid (∀ d p o : Nat, d ≤ N → p = (a + d) / 4096 → o = (a + d) % 4096 → ∀ w : World, Calls Tryd.prog 37 #[.int .u32 ((a : Int) + (d : Int))] w fun e w' => e = .returned (.tuple #[.int .i64 p, .int .i64 o]) ∧ w' = w) := by
    refine hide (fun d p o hd hp ho w => ?_)
    rw [hp, ho]
    exact split_any (a + d) (by omega) w
  go_enter Tryd.func55, Tryd.ntmps55
  go_wp2_with (first | (go_at_call 35; refine HHas.out.mono ?_; rintro e w1 ⟨rfl, rfl⟩))
  go_loopw [9] (fun dv wr => ∃ d m', d ≤ N ∧ dv = .int .i64 (d : Nat) ∧ HoldsAt wr w1.heap.size N 5 (readV m a d) ∧ Looked m m' ∧ RamAt wr B b P D m' ∧ Kept B w1 wr (m.owns b P D) ∧ (∀ x, m'.z = some x → x ≠ w1.heap.size) ∧ (m'.z = m.z ∨ ∃ x, m'.z = some x ∧ w1.heap.size ≤ x)) (fun dv _ => N - (intOf dv).toNat)
  case atStart => exact ⟨0, m, Nat.zero_le _, rfl, HZ.out, Looked.refl m, HR.out.bl (below_one _ _), Kept.of (below_one _ _) hB, HZl.out, .inl rfl⟩
  case round =>
    obtain ⟨d, m', hd, rfl, hH, hLk, hM, hK, hz, hzz⟩ := hrel
    have HZZ := hide hzz
    clear hzz
    have HH := hide hH
    have HLk := hide hLk
    have HM := hide hM
    have HK := hide hK
    have HZ' := hide hz
    clear hH hLk hM hK hz HHas
    by_cases hlt : d < N
    · obtain ⟨p, hp⟩ : ∃ p, p = (a + d) / 4096 := ⟨_, rfl⟩
      obtain ⟨o, ho⟩ : ∃ o, o = (a + d) % 4096 := ⟨_, rfl⟩
      have HSd := hide (HSp.out d p o hd hp ho)
      have hpk : p < m.n := by omega
      have hpl : p < 16384 := by omega
      have ho9 : o < 4096 := by omega
      have HP := hide hp
      have HO := hide ho
      clear hp ho
      have HT := hide (look_any (p := p) HM.out.dr (Nat.le_trans hB HK.out.size) (by rw [HLk.out.n]; exact hpk))
      have hcp0 := (HR.out.caps p hpk).1
      have hcp9 := (HR.out.caps p hpk).2.1
      unfold maxLen at hcp9
      rw [HLk.out.cap] at HT
      generalize m.cap p = cp at HT hcp0 hcp9
      have hsz := HH.out.lt
      go_wp2_with (first | (go_at_call 37; refine (HSd.out _).mono ?_; rintro e w2 ⟨rfl, rfl⟩))
      obtain ⟨c, hc⟩ : ∃ c, c = Nat.min (N - d) (4096 - o) := ⟨_, rfl⟩
      have hc1 : 0 < c := by rw [hc]; exact Nat.lt_min.2 ⟨by omega, by omega⟩
      have hc2 : d + c ≤ N := by have : Nat.min (N - d) (4096 - o) ≤ N - d := Nat.min_le_left _ _; omega
      have hc3 : o + c ≤ 4096 := by have : Nat.min (N - d) (4096 - o) ≤ 4096 - o := Nat.min_le_right _ _; omega
      have HC : MinIs c N d o := hc
      have HC1 := hide hc1
      have HC2 := hide hc2
      have HC3 := hide hc3
      clear hc hc1 hc2 hc3
      go_region_with (first | (go_at_call 67; refine HT.out.mono ?_; rintro e w3 ⟨g, m2, rfl, hx1, hx2, hx3, hx4, hx5, hx6⟩; have HL3 := hide hx1; have HM3 := hide hx2; have HG3 := hide hx3; have HK3 := hide hx4; have HZ3 := hide hx6; have HO3 := hide (hx4.holds HH.out.dr (fun ho => Nat.lt_irrefl _ (HOw.out _ (HLk.out.owns.1 ho)))); clear hx1 hx2 hx3 hx4 hx5 hx6) | (have hcp := copy_seen (cp := cp) HG3.out HO3.out HC (pageB m p o c) (by (unfold pageB; rw [HLk.out.dat])) (fun j => rfl); with_reducible rw [TakeOk.eq hcp]; clear hcp))
      all_goals
        go_simp
        go_wp2
        have hdc := HC2.out
        have hw : IntKind.i64.wrap ((d : Int) + (c : Int)) = ((d + c : Nat) : Int) := by rw [IntKind.wrap_i64]; omega
        rw [hw]
        go_roundw
        case rel =>
          have hz2 : ∀ x, m2.z = some x → x ≠ w1.heap.size := fun x hx => by
            rcases HZ3.out with e | ⟨y, e1, e2⟩
            · exact HZ'.out x (e ▸ hx)
            · have : x = y := Option.some.inj (hx.symm.trans e1)
              have h9 : w2.drew.heap.size = w2.heap.size := rfl
              omega
          refine ⟨d + c, m2, HC2.out, rfl, read_step HO3.out HP.out HO.out HC2.out HC3.out, HLk.out.trans HL3.out, ?_, ?_, hz2, ?_⟩
          · exact HM3.out.same (fun x hx => heap_setCells _ _ _ _ _ (fun e => by
              rcases hx with hx | hx
              · have := HOw.out x (HLk.out.owns.1 (HL3.out.owns.1 hx)); omega
              · exact hz2 x hx e))
          · have k1 := HK.out.dr.then HK3.out (fun x _ hx => HLk.out.owns.1 hx)
            exact ⟨k1.below.trans (Kept.sets (B := B) (own := fun x => x = w1.heap.size) rfl hB _ _).below, by (rw [size_setCells]; exact k1.size), fun x hx hn => (heap_setCells _ _ _ _ _ (by omega)).trans (k1.other x hx hn)⟩
          · rcases HZ3.out with e | ⟨y, e1, e2⟩
            · rcases HZZ.out with e3 | ⟨y, e3, e4⟩
              · exact .inl (e.trans e3)
              · exact .inr ⟨y, e.trans e3, e4⟩
            · exact .inr ⟨y, e1, Nat.le_trans HK.out.size e2⟩
        case measure => have := HC1.out; show N - (((d + c : Nat) : Int)).toNat < N - ((d : Int)).toNat; omega
    · obtain rfl : d = N := by omega
      go_wp2
      go_ret2
      exact ⟨rfl, HH.out, ⟨m', HLk.out, HM.out, HZZ.out, HZ'.out⟩, HK.out⟩
end Go.Proofs.YtbggkoahofnnjaaDoor
namespace Go.Proofs.YtbggkoahofnnjaaDoor
open Go.RowKit
set_option linter.unusedVariables false

/-- n pages at b that hold the bytes f; at most c writes were done; O: its blocks, all from B on. -/
structure RamB (w : World) (B b n : Nat) (f : Nat → Nat) (c : Nat) (O : Nat → Prop) : Prop where
  ex : ∃ P D m, RamAt w B b P D m ∧ m.n = n ∧ (∀ x, x < 4096 * n → m.at x = f x) ∧ m.wr ≤ c ∧ (∀ p o, m.dat p o < 256) ∧ ∀ x, (m.owns b P D x ∨ m.z = some x) → O x
  base : B ≤ w.heap.size
  pos : 0 < n
  few : n ≤ 16384
  small : ∀ x, f x < 256
  lt : ∀ x, O x → x < w.heap.size
  low : ∀ x, O x → B ≤ x
/-- What a step leaves: all blocks but the memory's; of those that were none becomes the memory's. -/
structure Went (B : Nat) (O O' : Nat → Prop) (w w' : World) : Prop where
  below : Below B w w'
  size : w.heap.size ≤ w'.heap.size
  other : ∀ x, x < w.heap.size → ¬ O x → w'.heap[x]? = w.heap[x]?
  own : ∀ x, x < w.heap.size → O' x → O x
theorem Went.refl (B : Nat) (O : Nat → Prop) (w : World) : Went B O O w w := ⟨Below.refl _ _, Nat.le_refl _, fun _ _ _ => rfl, fun _ _ h => h⟩
theorem Went.trans {B : Nat} {O O1 O2 : Nat → Prop} {w w1 w2 : World} (h : Went B O O1 w w1) (k : Went B O1 O2 w1 w2) : Went B O O2 w w2 :=
  ⟨h.below.trans k.below, Nat.le_trans h.size k.size, fun x hx hn => (k.other x (Nat.lt_of_lt_of_le hx h.size) (fun e => hn (h.own x hx e))).trans (h.other x hx hn),
   fun x hx e => h.own x hx (k.own x (Nat.lt_of_lt_of_le hx h.size) e)⟩
theorem Went.of {B : Nat} {O : Nat → Prop} {w w' : World} (hb : Below w.heap.size w w') (hB : B ≤ w.heap.size) : Went B O O w w' :=
  ⟨hb.mono hB, hb.size, fun x hx _ => hb.block x hx, fun _ _ h => h⟩
theorem Went.bl {B : Nat} {O O1 : Nat → Prop} {w w1 w2 : World} (h : Went B O O1 w w1) (hb : Below w1.heap.size w1 w2) (hB : B ≤ w1.heap.size) : Went B O O1 w w2 := h.trans (Went.of hb hB)
theorem Went.dr {B : Nat} {O O1 : Nat → Prop} {w w1 : World} (h : Went B O O1 w w1) : Went B O O1 w w1.drew := ⟨h.below.drew, h.size, h.other, h.own⟩
theorem Went.dn {B : Nat} {O O1 : Nat → Prop} {w w1 : World} (h : Went B O O1 w w1) (n : Nat) : Went B O O1 w (w1.drewN n) := ⟨below_dn h.below n, h.size, h.other, h.own⟩
theorem Went.only {B : Nat} {O O1 : Nat → Prop} {w w1 w2 : World} {g : Nat} (h : Went B O O1 w w1) (ho : Only g w1 w2) (hg : w.heap.size ≤ g) (hB : B ≤ g) : Went B O O1 w w2 :=
  ⟨ho.bel _ _ hB h.below, by rw [ho.size]; exact h.size, fun x hx hn => (ho.row x (by omega)).trans (h.other x hx hn), h.own⟩
theorem Went.row {B : Nat} {O O' : Nat → Prop} {w w' : World} (h : Went B O O' w w') {g : Nat} {cs : Array Value} {t : TypeId} (hr : RowAt w g cs t) (hn : ¬ O g) : RowAt w' g cs t := (h.other g hr.lt hn).trans hr
theorem Went.holds {B : Nat} {O O' : Nat → Prop} {w w' : World} (h : Went B O O' w w') {g n : Nat} {t : TypeId} {q : Nat → Value} (hr : HoldsAt w g n t q) (hn : ¬ O g) : HoldsAt w' g n t q := hr.of_heap (h.other g hr.lt hn)
theorem Went.no {B : Nat} {O O' : Nat → Prop} {w w' : World} (h : Went B O O' w w') {g : Nat} (hg : g < w.heap.size) (hn : ¬ O g) : ¬ O' g := fun e => hn (h.own g hg e)
/-- Blocks that are not the memory's. -/
def FarB (O : Nat → Prop) (N k : Nat) : Prop := ∀ x, N ≤ x → x < N + k → ¬ O x
theorem FarB.at {O : Nat → Prop} {N k : Nat} (h : FarB O N k) (j : Nat) (hj : j < k) : ¬ O (N + j) := h _ (by omega) (by omega)
theorem FarB.went {B : Nat} {O O' : Nat → Prop} {w w' : World} {N k : Nat} (h : FarB O N k) (hw : Went B O O' w w') (hk : N + k ≤ w.heap.size) : FarB O' N k := fun x h1 h2 => hw.no (by omega) (h x h1 h2)
theorem RamB.far {w : World} {B b n c : Nat} {f : Nat → Nat} {O : Nat → Prop} (h : RamB w B b n f c O) (k : Nat) : FarB O w.heap.size k := fun x h1 _ e => absurd (h.lt x e) (by omega)
theorem RamB.same {w w' : World} {B b n c : Nat} {f : Nat → Nat} {O : Nat → Prop} (h : RamB w B b n f c O) (e : ∀ x, O x → w'.heap[x]? = w.heap[x]?) (hs : w.heap.size ≤ w'.heap.size) : RamB w' B b n f c O := by
  obtain ⟨P, D, m, h1, h2, h3, h4, h5, h6⟩ := h.ex
  exact ⟨⟨P, D, m, h1.same (fun x hx => e x (h6 x hx)), h2, h3, h4, h5, h6⟩, Nat.le_trans h.base hs, h.pos, h.few, h.small, fun x hx => Nat.lt_of_lt_of_le (h.lt x hx) hs, h.low⟩
theorem RamB.bl {w w' : World} {B b n c : Nat} {f : Nat → Nat} {O : Nat → Prop} (h : RamB w B b n f c O) (hb : Below w.heap.size w w') : RamB w' B b n f c O := h.same (fun x hx => hb.block x (h.lt x hx)) hb.size
theorem RamB.dr {w : World} {B b n c : Nat} {f : Nat → Nat} {O : Nat → Prop} (h : RamB w B b n f c O) : RamB w.drew B b n f c O := h.same (fun _ _ => rfl) (Nat.le_refl _)
theorem RamB.dn {w : World} {B b n c : Nat} {f : Nat → Nat} {O : Nat → Prop} (h : RamB w B b n f c O) (k : Nat) : RamB (w.drewN k) B b n f c O := h.same (fun _ _ => rfl) (Nat.le_refl _)
theorem RamB.only {w w' : World} {B b n c g : Nat} {f : Nat → Nat} {O : Nat → Prop} (h : RamB w B b n f c O) (ho : Only g w w') (hn : ¬ O g) : RamB w' B b n f c O :=
  h.same (fun x hx => ho.row x (fun e => hn (e ▸ hx))) (Nat.le_of_eq ho.size.symm)
/-- What another memory's calls leave of this one. -/
theorem RamB.beside {w w' : World} {B b n c : Nat} {f : Nat → Nat} {O O2 O2' : Nat → Prop} (h : RamB w B b n f c O) (hw : Went B O2 O2' w w') (hx : ∀ x, O x → ¬ O2 x) : RamB w' B b n f c O :=
  h.same (fun x e => hw.other x (h.lt x e) (hx x e)) hw.size
theorem RamB.congr {w : World} {B b n c : Nat} {f g : Nat → Nat} {O : Nat → Prop} (h : RamB w B b n f c O) (e : ∀ x, x < 4096 * n → f x = g x) (hg : ∀ x, g x < 256) : RamB w B b n g c O := by
  obtain ⟨P, D, m, h1, h2, h3, h4, h5, h6⟩ := h.ex
  exact ⟨⟨P, D, m, h1, h2, fun x hx => (h3 x hx).trans (e x hx), h4, h5, h6⟩, h.base, h.pos, h.few, hg, h.lt, h.low⟩
theorem RamB.more {w : World} {B b n c c' : Nat} {f : Nat → Nat} {O : Nat → Prop} (h : RamB w B b n f c O) (hc : c ≤ c') : RamB w B b n f c' O := by
  obtain ⟨P, D, m, h1, h2, h3, h4, h5, h6⟩ := h.ex
  exact ⟨⟨P, D, m, h1, h2, h3, Nat.le_trans h4 hc, h5, h6⟩, h.base, h.pos, h.few, h.small, h.lt, h.low⟩
theorem RamB.lower {w : World} {B B' b n c : Nat} {f : Nat → Nat} {O : Nat → Prop} (h : RamB w B' b n f c O) (hB : B ≤ B') : RamB w B b n f c O := by
  obtain ⟨P, D, m, h1, h2, h3, h4, h5, h6⟩ := h.ex
  exact ⟨⟨P, D, m, h1.lower hB, h2, h3, h4, h5, h6⟩, Nat.le_trans hB h.base, h.pos, h.few, h.small, h.lt, fun x hx => Nat.le_trans hB (h.low x hx)⟩
theorem Went.mono {B B' : Nat} {O O' : Nat → Prop} {w w' : World} (h : Went B' O O' w w') (hB : B ≤ B') : Went B O O' w w' := ⟨h.below.mono hB, h.size, h.other, h.own⟩

/-- Behind a step of a memory: what the byte view says. -/
theorem RamB.of_step {w w' : World} {B b n c c' P D : Nat} {f g : Nat → Nat} {O : Nat → Prop} {m m' : Mem} {hv : Bool} (h : RamB w B b n f c O) (hn : m.n = n) (ho : ∀ x, (m.owns b P D x ∨ m.z = some x) → O x)
    (hM : MOut w w' B b P D m m' hv) (hg : ∀ x, x < 4096 * n → m'.at x = g x) (hs : ∀ x, m'.at x < 256) (hgs : ∀ x, g x < 256) (hc : m'.wr ≤ c') :
    ∃ O', RamB w' B b n g c' O' ∧ Went B O O' w w' ∧ ∀ x, O' x → (m'.owns b P D x ∨ m'.z = some x) := by
  refine ⟨fun x => m'.norm.owns b P D x ∨ m'.norm.z = some x, ⟨⟨P, D, m'.norm, hM.ram.norm, ?_, ?_, hc, Mem.norm_small hs, fun x hx => hx⟩, Nat.le_trans h.base hM.kept.size, h.pos, h.few, hgs, ?_, ?_⟩, ⟨hM.kept.below, hM.kept.size, ?_, ?_⟩, fun x hx => hx⟩
  · exact hM.st.n.trans hn
  · intro x hx; rw [m'.norm_at]; exact hg x hx
  · rintro x (hx | hx)
    · exact hM.ram.norm.owned hx
    · exact hM.ram.norm.z_lt hx
  · rintro x (hx | hx)
    · have hr := hM.ram.norm
      rcases hx with e | e | e | ⟨p, e1, e2⟩
      · rw [e]; exact hr.low.1
      · rw [e]; exact hr.low.2.1
      · rw [e]; exact hr.low.2.2.1
      · exact hr.low.2.2.2 p x e1 e2
    · exact (hM.ram.norm.zero x hx).2.1
  · intro x hx hnx
    exact hM.kept.other x hx (fun e => hnx (ho x (.inl e)))
  · intro x hx e
    rcases hM.st.norm.own x e with e1 | e1
    · exact ho x e1
    · exact absurd hx (by omega)

theorem cut3 {α : Type} {p q r : α → Prop} (h : ∃ x, p x ∧ q x ∧ r x) : ∃ x, p x ∧ q x := by
  obtain ⟨x, h1, h2, _⟩ := h
  exact ⟨x, h1, h2⟩
/-- A number of k bytes, the lowest first. -/
def numF (f : Nat → Nat) (a : Nat) : Nat → Nat
  | 0 => 0
  | k + 1 => numF f a k + f (a + k) * 256 ^ k
theorem numF_lt {f : Nat → Nat} (hf : ∀ x, f x < 256) (a k : Nat) : numF f a k < 256 ^ k := by
  induction k with
  | zero => simp [numF]
  | succ k ih =>
    have h := hf (a + k)
    simp only [numF, Nat.pow_succ]
    have : f (a + k) * 256 ^ k ≤ 255 * 256 ^ k := Nat.mul_le_mul_right _ (by omega)
    omega
theorem ref_numF (f : Nat → Nat) (hf : ∀ x, f x < 256) (a k : Nat) : refN (fun j => UInt8.ofNat (f j)) a k = numF f a k := by
  induction k with
  | zero => rfl
  | succ k ih =>
    have h := hf (a + k)
    rw [refN, numF, ih, show (UInt8.ofNat (f (a + k))).toNat = f (a + k) by simp; omega]
theorem acc_plusB (s : Nat) (x : UInt8) (h : s < 16777216) : (s * 256 % 4294967296 ||| x.toNat) = s * 256 + x.toNat := by
  have hx : x.toNat < 2 ^ 8 := x.toNat_lt
  rw [Nat.mod_eq_of_lt (by omega), nat_join 8 _ _ (by omega) hx]
theorem get_numF (f : Nat → Nat) (hf : ∀ x, f x < 256) (at_ k : Nat) (hk : k = 1 ∨ k = 2 ∨ k = 4) : getN (fun j => UInt8.ofNat (f j)) at_ k = numF f at_ k := by
  rw [← ref_numF f hf]
  generalize (fun j => UInt8.ofNat (f j)) = g
  have b0 := (g at_).toNat_lt
  have b1 := (g (at_ + 1)).toNat_lt
  have b2 := (g (at_ + 2)).toNat_lt
  have b3 := (g (at_ + 3)).toNat_lt
  rcases hk with rfl | rfl | rfl
  · simp only [getN, upto, downAt, accN, refN, List.range_succ, List.range_zero, List.nil_append, List.map_cons, List.map_nil, List.foldl_cons, List.foldl_nil]
    rw [acc_plusB _ _ (by omega)]
    simp
  · simp only [getN, upto, downAt, accN, refN, List.range_succ, List.range_zero, List.nil_append, List.cons_append, List.map_cons, List.map_nil, List.foldl_cons, List.foldl_nil]
    simp only [Nat.reduceSub, Nat.sub_zero, Nat.add_zero, Nat.sub_self]
    rw [acc_plusB 0 _ (by omega), acc_plusB _ _ (by omega)]
    omega
  · simp only [getN, upto, downAt, accN, refN, List.range_succ, List.range_zero, List.nil_append, List.cons_append, List.map_cons, List.map_nil, List.foldl_cons, List.foldl_nil]
    simp only [Nat.reduceSub, Nat.sub_zero, Nat.add_zero, Nat.sub_self]
    rw [acc_plusB 0 _ (by omega), acc_plusB (0 * 256 + (g (at_ + 3)).toNat) _ (by omega), acc_plusB ((0 * 256 + (g (at_ + 3)).toNat) * 256 + (g (at_ + 2)).toNat) _ (by omega), acc_plusB _ _ (by omega)]
    omega

theorem load_b {w : World} {B b n c : Nat} {f : Nat → Nat} {O : Nat → Prop} (h : RamB w B b n f c O) (a k : Nat) (ha : a < 4294967296) (hk : k = 1 ∨ k = 2 ∨ k = 4) (hal : a % k = 0) (hin : a + k ≤ 4096 * n) :
    Calls Tryd.prog 57 #[.pointer (some ⟨b, 0, none⟩), .int .u32 a, .int .i64 k] w fun e w' => e = .returned (.tuple #[.int .u32 (numF f a k : Nat), .nilIface]) ∧ ∃ O', RamB w' B b n f c O' ∧ Went B O O' w w' := by
  obtain ⟨P, D, m, h1, h2, h3, h4, h5, h6⟩ := h.ex
  refine (load_all h1 h.base a k ha hk hal (by rw [h2]; omega) (fun o _ => h5 _ o)).mono ?_
  rintro e w' ⟨rfl, ⟨m', hl, hr, hz⟩, hk'⟩
  have ev : getN (fun j => UInt8.ofNat (m.dat (a / 4096) j)) (a % 4096) k = numF f a k := by
    rw [get_numF (m.dat (a / 4096)) (h5 _) _ _ hk]
    have hd : ∀ j, j < k → m.dat (a / 4096) (a % 4096 + j) = f (a + j) := by
      intro j hj
      rw [m.dat_at _ _ (by rcases hk with rfl | rfl | rfl <;> omega), show a / 4096 * 4096 + (a % 4096 + j) = a + j by omega]
      exact h3 _ (by omega)
    clear h3
    induction k with
    | zero => rfl
    | succ k ih' =>
      clear ih'
      have : ∀ q, (∀ j, j < q → m.dat (a / 4096) (a % 4096 + j) = f (a + j)) → numF (m.dat (a / 4096)) (a % 4096) q = numF f a q := by
        intro q
        induction q with
        | zero => intro _; rfl
        | succ q ih => intro hq; rw [numF, numF, ih (fun j hj => hq j (by omega)), hq q (by omega)]
      exact this _ hd
  refine ⟨by rw [ev], ?_⟩
  exact cut3 (h.of_step h2 h6 ⟨hr, hk', Stepped.looked hl hz⟩ (fun x hx => by rw [hl.at]; exact h3 x hx) (fun x => by rw [hl.at]; exact h5 _ _) h.small (by rw [hl.wr]; exact h4))
theorem load_bad_b {w : World} {B b n c : Nat} {f : Nat → Nat} {O : Nat → Prop} (h : RamB w B b n f c O) (a k : Nat) (ha : a < 4294967296) (hb : 4096 * n < a + k ∨ a % k ≠ 0) (hk : k = 1 ∨ k = 2 ∨ k = 4) :
    Calls Tryd.prog 57 #[.pointer (some ⟨b, 0, none⟩), .int .u32 a, .int .i64 k] w fun e w' => (∃ z : Int, e = .returned (.tuple #[.int .u32 0, .iface 59 (.int .i64 z)])) ∧ w' = w := by
  obtain ⟨P, D, m, h1, h2, h3, h4, h5, h6⟩ := h.ex
  have hne : numE a k m.n ≠ 0 := by
    unfold numE
    rw [h2]
    rcases hk with rfl | rfl | rfl <;> (simp; omega)
  refine (load_bad b P m.n a k ha h1.few w h1.pagesAt hne).mono ?_
  rintro e w' ⟨rfl, rfl⟩
  exact ⟨⟨_, rfl⟩, rfl⟩
theorem store_bad_b {w : World} {B b n c : Nat} {f : Nat → Nat} {O : Nat → Prop} (h : RamB w B b n f c O) (a k : Nat) (v : Value) (ha : a < 4294967296) (hb : 4096 * n < a + k ∨ a % k ≠ 0) (hk : k = 1 ∨ k = 2 ∨ k = 4) :
    Calls Tryd.prog 8 #[.pointer (some ⟨b, 0, none⟩), .int .u32 a, .int .i64 k, v] w fun e w' => (∃ z : Int, e = .returned (.iface 59 (.int .i64 z))) ∧ w' = w := by
  obtain ⟨P, D, m, h1, h2, h3, h4, h5, h6⟩ := h.ex
  have hne : numE a k m.n ≠ 0 := by
    unfold numE
    rw [h2]
    rcases hk with rfl | rfl | rfl <;> (simp; omega)
  refine (store_bad b P m.n a k v ha h1.few w h1.pagesAt hne).mono ?_
  rintro e w' ⟨rfl, rfl⟩
  exact ⟨⟨_, rfl⟩, rfl⟩
theorem store_b {w : World} {B b n c : Nat} {f : Nat → Nat} {O : Nat → Prop} (h : RamB w B b n f c O) (a k : Nat) (ha : a < 4294967296) (hk : k = 1 ∨ k = 2 ∨ k = 4) (hal : a % k = 0) (hin : a + k ≤ 4096 * n) (v : Nat) (hv : v < 4294967296) (hc : c ≤ 1000000000) :
    Calls Tryd.prog 8 #[.pointer (some ⟨b, 0, none⟩), .int .u32 a, .int .i64 k, .int .u32 v] w fun e w' => e = .returned .nilIface ∧ ∃ O', RamB w' B b n (wroteF f a (numB v k)) (c + 1) O' ∧ Went B O O' w w' := by
  obtain ⟨P, D, m, h1, h2, h3, h4, h5, h6⟩ := h.ex
  refine (store_ok h1 h.base a k ha hk hal (by rw [h2]; omega) v hv (by omega)).mono ?_
  rintro e w' ⟨rfl, q, hW, hr, hk'⟩
  have hat := hW.atF (numB_len v k)
  refine ⟨rfl, cut3 (h.of_step h2 h6 ⟨hr, hk', Stepped.wrote hW (numB_small v k)⟩ (fun x hx => ?_) (fun x => ?_) (wroteF_lt h.small a (numB_small v k)) ?_)⟩
  · rw [hat]; unfold wroteF; split
    · rfl
    · exact h3 x hx
  · rw [hat]; exact wroteF_lt (fun y => h5 _ _) a (numB_small v k) x
  · show q.wr + 1 ≤ c + 1; rw [hW.wr]; omega
theorem read_b {w : World} {B b n c : Nat} {f : Nat → Nat} {O : Nat → Prop} (h : RamB w B b n f c O) (a : Nat) (ha : a < 4294967296) (N : Nat) (hN : 0 < N) (hin : a + N ≤ 4096 * n) :
    Calls Tryd.prog 55 #[.pointer (some ⟨b, 0, none⟩), .int .u32 a, .int .i64 N] w fun e w' => e = .returned (.tuple #[.slice (some ⟨w.heap.size, 0, none⟩) N N, .nilIface]) ∧ HoldsAt w' w.heap.size N 5 (fun j => .int .u8 (f (a + j) : Nat)) ∧ ∃ O', RamB w' B b n f c O' ∧ Went B O O' w w' ∧ ¬ O' w.heap.size := by
  obtain ⟨P, D, m, h1, h2, h3, h4, h5, h6⟩ := h.ex
  refine (read_y h1 h.base a ha N hN (by rw [h2]; omega)).mono ?_
  rintro e w' ⟨rfl, hh, ⟨m', hl, hr, hz, hzn⟩, hk'⟩
  have hh2 : HoldsAt w' w.heap.size N 5 (fun j => .int .u8 (f (a + j) : Nat)) := hh.congr (fun j hj => by rw [readV_lt hj, h3 (a + j) (by omega)])
  refine ⟨rfl, hh2, ?_⟩
  obtain ⟨O', hO, hw, hi⟩ := h.of_step (g := f) (c' := c) h2 h6 ⟨hr, hk', Stepped.looked hl hz⟩ (fun x hx => by rw [hl.at]; exact h3 x hx) (fun x => by rw [hl.at]; exact h5 _ _) h.small (by rw [hl.wr]; exact h4)
  refine ⟨O', hO, hw, fun e => ?_⟩
  rcases hi _ e with e1 | e1
  · have := h1.owned (hl.owns.1 e1); omega
  · exact hzn _ e1 rfl
theorem write_b {w : World} {B b n c : Nat} {f : Nat → Nat} {O : Nat → Prop} (h : RamB w B b n f c O) (a : Nat) (ha : a < 4294967296) (l : List Nat) (hl : ∀ y, y ∈ l → y < 256) (N : Nat) (hlN : l.length = N) (hN : 0 < N) (hin : a + N ≤ 4096 * n)
    (sb so sc : Nat) (hsc : N ≤ sc) (hsrc : ∀ j v, (byteV l)[j]? = some v → w.cell? ⟨sb, so + j, none⟩ = some v) (hsl : sb < w.heap.size) (hso : ¬ O sb) (hc : c ≤ 1000000000) :
    Calls Tryd.prog 23 #[.pointer (some ⟨b, 0, none⟩), .int .u32 a, .slice (some ⟨sb, so, none⟩) N sc] w fun e w' => e = .returned .nilIface ∧ ∃ O', RamB w' B b n (wroteF f a l) (c + 1) O' ∧ Went B O O' w w' := by
  obtain ⟨P, D, m, h1, h2, h3, h4, h5, h6⟩ := h.ex
  refine (write_some h1 h.base a ha l N hlN hN (by rw [h2]; omega) sb so sc hsc hsrc hsl (fun e => hso (h6 _ (.inl e))) (by omega)).mono ?_
  rintro e w' ⟨rfl, q, hW, hr, hk'⟩
  have hat := hW.atF hlN
  refine ⟨rfl, cut3 (h.of_step h2 h6 ⟨hr, hk', Stepped.wrote hW hl⟩ (fun x hx => ?_) (fun x => ?_) (wroteF_lt h.small a hl) ?_)⟩
  · rw [hat]; unfold wroteF; split
    · rfl
    · exact h3 x hx
  · rw [hat]; exact wroteF_lt (fun y => h5 _ _) a hl x
  · show q.wr + 1 ≤ c + 1; rw [hW.wr]; omega
theorem new_b (n : Nat) (h0 : 1 ≤ n) (h1 : n ≤ 16384) (w : World) :
    Calls Tryd.prog 10 #[.int .i64 n] w fun e w' => ∃ b O, e = .returned (.tuple #[.pointer (some ⟨b, 0, none⟩), .nilIface]) ∧ RamB w' w.heap.size b n (fun _ => 0) 0 O ∧ Below w.heap.size w w' := by
  refine (new_ram n h0 h1 w).mono ?_
  rintro e w' ⟨rfl, ⟨P, D, hr⟩, hb⟩
  refine ⟨_, fun x => (Mem.fresh n).owns (w.heap.size + 1 + 1) P D x, rfl, ⟨⟨P, D, _, hr, rfl, fun _ _ => rfl, Nat.le_refl _, fun _ _ => (by show 0 < 256; decide), ?_⟩, hb.size, h0, h1, fun _ => (by show 0 < 256; decide), fun x hx => hr.owned hx, ?_⟩, hb⟩
  · rintro x (hx | hx)
    · exact hx
    · cases hx
  · intro x hx
    rcases hx with e | e | e | ⟨p, e1, e2⟩
    · rw [e]; exact hr.low.1
    · rw [e]; exact hr.low.2.1
    · rw [e]; exact hr.low.2.2.1
    · cases e2
end Go.Proofs.YtbggkoahofnnjaaDoor
namespace Go.Proofs.YtbggkoahofnnjaaDoor
open Go.RowKit
set_option linter.unusedVariables false

variable {P : Program} {ops : Array Oper} {rest : List Oper} {dst : Option Tmp} {ty : TypeId} {pos : String} {after : Array Edge} {a : Act} {w W w0 : World} {Q : Exit → Act → World → Prop} {x y : Operand} {t t' : TypeId} {cs : Array Value} {b B n c p : Nat} {f : Nat → Nat} {O O1 O' : Nat → Prop} {row : Option Nat} {e size : Nat} {v : Value} {xs : List Value} {g : Nat}

theorem grow_row (h : RowAt w g cs t) (hg : w.grownBy W row) (hn : row ≠ some g) : RowAt W g cs t := (hg.block g h.lt (fun k => hn k.symm)).trans h
theorem grow_ram (h : RamB w B b n f c O) (hg : w.grownBy W row) (hn : ∀ g, row = some g → ¬ O g) : RamB W B b n f c O :=
  h.same (fun x hx => hg.block x (h.lt x hx) (fun k => hn x k.symm hx)) hg.size
theorem grow_below {k : Nat} (h : Below k w0 w) (hg : w.grownBy W row) (hk : k ≤ w.heap.size) (hrow : ∀ g, row = some g → k ≤ g) : Below k w0 W := h.grown hg hk (fun x hx => hrow x hx)
theorem grow_went (h : Went B O O1 w0 w) (hg : w.grownBy W row) (hrow : ∀ g, row = some g → w0.heap.size ≤ g) (hB : B ≤ w0.heap.size) : Went B O O1 w0 W :=
  ⟨grow_below h.below hg (Nat.le_trans hB h.size) (fun x hx => Nat.le_trans hB (hrow x hx)), Nat.le_trans h.size hg.size,
   fun x hx hn => (hg.block x (Nat.lt_of_lt_of_le hx h.size) (fun k => absurd (hrow x k.symm) (by omega))).trans (h.other x hx hn), h.own⟩
theorem own_at (h : w.ownsRow B e size v n xs) (hk : ∀ g, v.ownBlock = some g → W.heap[g]? = w.heap[g]?) : W.ownsRow B e size v n xs := by
  refine ⟨h.1, h.2.imp id ?_⟩
  rintro ⟨g, cap, cur, rfl, hb, hgg, rest⟩
  exact ⟨g, cap, cur, rfl, hb, (hk g rfl).trans hgg, rest⟩
theorem own_bel (h : w.ownsRow B e size v n xs) (hb : Below w.heap.size w W) : W.ownsRow B e size v n xs := own_at h (fun g hg => hb.block g (h.lt g hg).2)
theorem own_went {Bm : Nat} (h : w.ownsRow B e size v n xs) (hw : Went Bm O O' w W) (hn : ∀ g, v.ownBlock = some g → ¬ O g) : W.ownsRow B e size v n xs := own_at h (fun g hg => hw.other g (h.lt g hg).2 (hn g hg))
theorem own_only (h : w.ownsRow B e size v n xs) (ho : Only b w W) (hn : v.ownBlock ≠ some b) : W.ownsRow B e size v n xs := own_at h (fun g hg => ho.row g (fun k => hn (k ▸ hg)))
theorem own_dr (h : w.ownsRow B e size v n xs) : w.drew.ownsRow B e size v n xs := own_at h (fun _ _ => rfl)
theorem own_form (h : w.ownsRow B e size v n xs) : ∃ ad cap, v = .slice ad n cap ∧ n ≤ cap ∧ cap ≤ maxLen := by
  rcases h.2 with ⟨h1, h2⟩ | ⟨g, cap, cur, h1, h2, h3, h4, h5, _⟩
  · subst h1 h2; exact ⟨none, 0, rfl, Nat.le_refl _, Nat.zero_le _⟩
  · exact ⟨_, cap, h1, h4, h5⟩
theorem own_pos (h : w.ownsRow B e size v n xs) (hn : 0 < n) : ∃ g cap, v = .slice (some ⟨g, 0, none⟩) n cap ∧ n ≤ cap ∧ cap ≤ maxLen ∧ B ≤ g ∧ g < w.heap.size ∧ ∀ j u, xs[j]? = some u → w.cell? ⟨g, j, none⟩ = some u := by
  have hc := fun (g : Nat) => h.cells (g := g)
  have hl := h.lt
  rcases h.2 with ⟨_, h2⟩ | ⟨g, cap, cur, h1, h2, h3, h4, h5, _⟩
  · omega
  · refine ⟨g, cap, h1, h4, h5, h2, (hl g (by rw [h1]; rfl)).2, fun j u hu => ?_⟩
    have := hc g (by rw [h1]; rfl) j u hu
    rwa [show (⟨g, 0, none⟩ : Addr).add j = ⟨g, j, none⟩ by unfold Addr.add; split <;> simp_all] at this
theorem grow_no {v' : Value} (hM : RamB w B b n f c O) (hLn : ∀ g, v.ownBlock = some g → ¬ O g) (hbk : v'.ownBlock = v.ownBlock ∨ v'.ownBlock = some w.heap.size) : ∀ g, v'.ownBlock = some g → ¬ O g := by
  intro g e
  rcases hbk with q | q
  · exact hLn g (q ▸ e)
  · rw [q] at e
    cases e
    exact fun k => absurd (hM.lt _ k) (by omega)
/-- The length of a slice. -/
def lenV : Value → Nat
  | .slice _ n _ => n
  | _ => 0
/-- What append makes of a list of one's own. -/
theorem op_appl (t e : TypeId) (i : TypeInfo) (z : Value) (size bytes : Nat) (ht : P.underlying t = some (.slice e)) (hi : P.info? e = some i) (hz : i.zero = some z) (hs : i.size = size) (hby : i.bytes = bytes) (hzs : z.cells.size = size) (hsz : 0 < size)
    (hown : w.ownsRow B e size v n xs) (s : Addr) (m sc : Nat) (news : List Value) (hl : news.length = m * size) (hnews : ∀ j u, news[j]? = some u → w.cell? (s.add j) = some u) (h1 : ∀ u ∈ news, u.oneCell' = true)
    (h63 : n + m ≤ maxLen) (hbytes : (n + m) * bytes ≤ 140737488355328) (hB : B ≤ w.heap.size) (hx : a.eval x = v) (hy : a.eval y = .slice (some s) m sc)
    (k : ∀ W v', W.ownsRow B e size v' (n + m) (xs ++ news) → w.grownBy W v.ownBlock → (v'.ownBlock = v.ownBlock ∨ v'.ownBlock = some w.heap.size) → wpList P ops Q rest (a.put dst v') W) :
    wpList P ops Q (⟨dst, .call { callee := .builtin .append, args := #[x, y], argTypes := #[t, t] }, t, pos, after, none⟩ :: rest) a w := by
  obtain ⟨v', W, a1, a2, a3, a4, a5⟩ := run_append_own_at (P := P) w B t t e i z size bytes ht hi hz hs hby hzs hsz v n xs hown s m sc news hl hnews h1 h63 hbytes hB
  refine wpList_plain rfl fun K hK => ?_
  unfold Oper.wp
  have : (execOp a.eval ⟨dst, .call { callee := .builtin .append, args := #[x, y], argTypes := #[t, t] }, t, pos, after, none⟩).run P w = .ok (.value v') W := by
    simp [execOp, resolve, invoke, builtin, hx, hy, a1, Result.andThen]
  rw [this, Oper.upon_value]
  exact hK _ _ (k W v' a2 a3 a5)
end Go.Proofs.YtbggkoahofnnjaaDoor
namespace Go.Proofs.YtbggkoahofnnjaaDoor
open Go.RowKit
set_option linter.unusedVariables false

/-- A place of the bus, as memory knows it. -/
def plM (x : Nat) : Nat := if 2147483648 ≤ x then x - 2147483648 else x + 2147483648
/-- Are n bytes from the bus's place x on in a memory of p pages? -/
def plB (p x n : Nat) : Bool := decide (n = 0 ∨ plM x + n ≤ 4096 * p)
def t32 (x : Nat) : Nat := x % 4294967296
theorem plM_lt {x : Nat} (h : x < 4294967296) : plM x < 4294967296 := by unfold plM; split <;> omega
theorem plM_wrap (x : Nat) (h : x < 4294967296) : ((x : Int) - 2147483648) % 4294967296 = (plM x : Int) := by
  unfold plM; split <;> omega
theorem plM_al (x k : Nat) (hk : k = 1 ∨ k = 2 ∨ k = 4 ∨ k = 16) (h : x % k = 0) : plM x % k = 0 := by
  unfold plM; rcases hk with rfl | rfl | rfl | rfl <;> split <;> omega
theorem plB_in {p x n : Nat} (h : plB p x n = true) (hn : 0 < n) : plM x + n ≤ 4096 * p := by
  have := of_decide_eq_true h; omega
theorem plB_out {p x n : Nat} (h : plB p x n = false) : 4096 * p < plM x + n := by
  have := of_decide_eq_false h; omega
/-- Where the n-th of a table stands. -/
def slotN (r : Rg) (n : Nat) : Nat := n % r.sz.toNat
theorem slotN_lt {r : Rg} (h : chkR r = true) (n : Nat) : slotN r n < 256 := by
  obtain ⟨k, h1, h2, h3⟩ := chkR_sz h
  unfold slotN
  rw [h1, Int.toNat_natCast]
  have := Nat.mod_lt n (show 0 < k by omega)
  omega
end Go.Proofs.YtbggkoahofnnjaaDoor
namespace Go.Proofs.YtbggkoahofnnjaaDoor
open Go.RowKit
set_option linter.unusedVariables false
set_option linter.unusedSimpArgs false

variable {ops : Array Oper} {rest : List Oper} {dst : Option Tmp} {ty : TypeId} {pos : String} {after : Array Edge} {a : Act} {w : World} {Q : Exit → Act → World → Prop} {x y : Operand} {S : World → Prop} {K : Act → World → Prop} {gd : Option (Nat × Bool)}
theorem al_Rz (N : Nat) (hN : w.heap.size = N)
    (k : ∀ W, RowAt W N zR 29 → Below N w W → Hid (W.heap.size = N + 1) → wpList Tryd.prog ops Q rest (a.put dst (.pointer (some ⟨N, 0, none⟩))) W) :
    wpList Tryd.prog ops Q (⟨dst, .alloc 29, ty, pos, after, none⟩ :: rest) a w := op_alloc N hN zR zero_R k
theorem y_Rw (b : Nat) (r : RP) (N n : Nat) (hS : ∀ V, S V → RowAt V b (r.v N n) 29) (hx : a.eval x = .pointer (some ⟨b, 0, none⟩)) :
    YieldsIf Tryd.prog ops S ⟨dst, .load 29 x, ty, pos, after, none⟩ (.agg (r.v N n)) a := y_load b (r.v N n) _ hS _ Tryd.underlying29 rfl size_R hx
theorem s_ldR (b : Nat) (r : RP) (N n : Nat) (hr : RowAt w b (r.v N n) 29) (hx : a.eval x = .pointer (some ⟨b, 0, none⟩)) (k : K (a.put dst (.agg (r.v N n))) w) :
    Oper.wp Tryd.prog ⟨dst, .load 29 x, ty, pos, after, none⟩ a w K Q := wp_load_row 29 x rfl b hx _ (r.v N n) (0, 0) _ hr Tryd.underlying29 rfl size_R k
theorem s_stR (b : Nat) (old : Array Value) (r : RP) (N n : Nat) (hr : RowAt w b old 29) (ho : old.size = 3) (hx : a.eval x = .pointer (some ⟨b, 0, none⟩)) (hy : a.eval y = .agg (r.v N n))
    (k : ∀ W, RowAt W b (r.v N n) 29 → Only b w W → K (a.put dst undef) W) :
    Oper.wp Tryd.prog ⟨dst, .store 29 x y, ty, pos, after, none⟩ a w K Q :=
  s_store b hx (r.v N n) hy old _ hr size_R ho (v_one r N n) k
/-- The document's memory beside the program's: the same bytes, blocks of its own. -/
structure RefB (w : World) (B N n : Nat) (f : Nat → Nat) (r : RP) (O : Nat → Prop) : Prop where
  ref : RefAt w N n f r
  low : ∀ x, r.owns x → B ≤ x
  no : ∀ x, r.owns x → ¬ O x
theorem RefB.went {w w' : World} {B N n : Nat} {f : Nat → Nat} {r : RP} {O O' : Nat → Prop} (h : RefB w B N n f r O) (hw : Went B O O' w w') : RefB w' B N n f r O' :=
  ⟨h.ref.same (fun x hx => hw.other x (h.ref.lt hx) (h.no x hx)), h.low, fun x hx => hw.no (h.ref.lt hx) (h.no x hx)⟩
theorem RefB.bl {w w' : World} {B N n : Nat} {f : Nat → Nat} {r : RP} {O : Nat → Prop} (h : RefB w B N n f r O) (hb : Below w.heap.size w w') : RefB w' B N n f r O := ⟨h.ref.bl hb, h.low, h.no⟩
theorem RefB.dr {w : World} {B N n : Nat} {f : Nat → Nat} {r : RP} {O : Nat → Prop} (h : RefB w B N n f r O) : RefB w.drew B N n f r O := ⟨h.ref.same (fun _ _ => rfl), h.low, h.no⟩
theorem RefB.dn {w : World} {B N n : Nat} {f : Nat → Nat} {r : RP} {O : Nat → Prop} (h : RefB w B N n f r O) (k : Nat) : RefB (w.drewN k) B N n f r O := ⟨h.ref.same (fun _ _ => rfl), h.low, h.no⟩
theorem RefB.only {w w' : World} {B N n g : Nat} {f : Nat → Nat} {r : RP} {O : Nat → Prop} (h : RefB w B N n f r O) (ho : Only g w w') (hg : ¬ r.owns g) : RefB w' B N n f r O :=
  ⟨h.ref.same (fun x hx => ho.row x (fun e => hg (e ▸ hx))), h.low, h.no⟩
/-- What a call of the document's leaves: new blocks, or the elder ones. -/
theorem RefB.next {w w' : World} {B N n b p c : Nat} {f g fm : Nat → Nat} {r r' : RP} {O : Nat → Prop} (h : RefB w B N n f r O) (hM : RamB w B b p fm c O) (hr : RefAt w' N n g r') (hn : ∀ x, r'.owns x → r.owns x ∨ w.heap.size ≤ x) : RefB w' B N n g r' O :=
  ⟨hr, fun x hx => (hn x hx).elim (h.low x) (fun e => Nat.le_trans hM.base e), fun x hx e => (hn x hx).elim (fun k => h.no x k e) (fun k => absurd (hM.lt x e) (by omega))⟩
def atOf (x : Nat) : Nat := x % 8192 / 4 * 4
theorem atOf_in (x : Nat) : atOf x % 4 = 0 ∧ atOf x + 4 ≤ 8192 := by unfold atOf; omega
end Go.Proofs.YtbggkoahofnnjaaDoor
