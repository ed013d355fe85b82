/-
  The law's step: what it takes, and what it leaves.
-/
import Derived.Test.YtghpjibjhaomoaaGreatDoorJMeRef5
import Derived.Test.YtghpjibjhaomoaaGreatDoorJMeSureM
import Derived.Test.YtghpjibjhaomoaaGreatDoorJNum
namespace Go.Proofs.YtghpjibjhaomoaaGreatDoor
open Go.RowKit
set_option linter.unusedVariables false
attribute [local go_sem ↓] Go.wp_at_zero Go.wp_at_succ

/-- An act as it is handed in. -/
structure Act5 where
  kd : Int
  at_ : Nat
  k : Int
  v : Nat
  sa : Option Addr
  L : Nat
  sc : Nat
def Act5.cells (a : Act5) : Array Value := #[.int .i64 a.kd, .int .u32 (a.at_ : Nat), .int .i64 a.k, .int .u32 (a.v : Nat), .slice a.sa a.L a.sc]
/-- Its kind. -/
def Act5.kind (a : Act5) : Nat := (a.kd % 18446744073709551616 % 9).toNat
structure ActAt (w : World) (B : Nat) (a : Act5) (l : List Nat) : Prop where
  kd : -9223372036854775808 ≤ a.kd ∧ a.kd ≤ 9223372036854775807
  at_ : a.at_ < 4294967296
  k : -9223372036854775808 ≤ a.k ∧ a.k ≤ 9223372036854775807
  v : a.v < 4294967296
  len : l.length = a.L
  few : a.L ≤ 20000
  cap : a.L ≤ a.sc ∧ a.sc ≤ maxLen
  small : ∀ y, y ∈ l → y < 256
  src : a.L = 0 ∨ ∃ sb so, a.sa = some ⟨sb, so, none⟩ ∧ sb < B ∧ ∀ j v, (byteV l)[j]? = some v → w.cell? ⟨sb, so + j, none⟩ = some v
theorem ActAt.bl {w w' : World} {B : Nat} {a : Act5} {l : List Nat} (h : ActAt w B a l) (hb : Below B w w') : ActAt w' B a l :=
  { kd := h.kd, at_ := h.at_, k := h.k, v := h.v, len := h.len, few := h.few, cap := h.cap, small := h.small,
    src := h.src.imp id (fun ⟨sb, so, e1, e2, e3⟩ => ⟨sb, so, e1, e2, fun j v hj => (hb.cell (p := ⟨sb, so + j, none⟩) e2).trans (e3 j v hj)⟩) }
/-- What one act makes of a memory. -/
structure Stepped (m m' : Mem) (b P D S : Nat) (hv : Bool) : Prop where
  n : m'.n = m.n
  wr : m'.wr ≤ m.wr + 1
  small : (∀ x, m.at x < 256) → ∀ x, m'.at x < 256
  clean : hv = false → ∀ p, m'.dirty p = false → m.dirty p = false ∧ ∀ o, o < 4096 → m'.dat p o = m.dat p o
  own1 : ∀ x, m'.owns b P D x → m.owns b P D x ∨ S ≤ x
  own2 : ∀ x, m'.z = some x → m.z = some x ∨ S ≤ x
theorem Stepped.own {m m' : Mem} {b P D S : Nat} {hv : Bool} (h : Stepped m m' b P D S hv) (x : Nat) (hx : m'.owns b P D x ∨ m'.z = some x) : (m.owns b P D x ∨ m.z = some x) ∨ S ≤ x := by
  rcases hx with h1 | h1
  · exact (h.own1 x h1).imp .inl id
  · exact (h.own2 x h1).imp .inr id
structure MOut (w w' : World) (B b P D : Nat) (m m' : Mem) (hv : Bool) : Prop where
  ram : RamAt w' B b P D m'
  kept : Kept B w w' (m.owns b P D)
  st : Stepped m m' b P D w.heap.size hv
theorem Stepped.looked {m m' : Mem} {b P D S : Nat} (h : Looked m m') (hz : m'.z = m.z ∨ ∃ x, m'.z = some x ∧ S ≤ x) : Stepped m m' b P D S false :=
  { n := h.n, wr := by rw [h.wr]; omega, small := fun hs x => (by show m'.dat _ _ < 256; rw [h.dat]; exact hs x), clean := fun _ p hp => ⟨by rw [← h.dirty]; exact hp, fun o _ => by rw [h.dat]⟩,
    own1 := fun x hx => .inl (h.owns.1 hx),
    own2 := fun x hx => by
      rcases hz with e | ⟨y, e1, e2⟩
      · exact .inl (e ▸ hx)
      · have : x = y := Option.some.inj (hx.symm.trans e1)
        exact .inr (by omega) }
theorem Looked.at {m m' : Mem} (h : Looked m m') : m'.at = m.at := by funext x; show m'.dat _ _ = m.dat _ _; rw [h.dat]
theorem Stepped.wrote {m k : Mem} {b P D S a d : Nat} {l : List Nat} (h : Wrote m k S a l d) (hl : ∀ y, y ∈ l → y < 256) : Stepped m { k with wr := k.wr + 1 } b P D S false :=
  { n := h.n, wr := (by show k.wr + 1 ≤ _; rw [h.wr]; omega), small := fun hs x => h.byte hs hl x,
    clean := fun _ p hp => by
      have hp' : k.dirty p = false := hp
      have hm : m.dirty p = false := by
        cases hd : m.dirty p with
        | false => rfl
        | true => rw [(h.dirty p).2 (.inl hd)] at hp'; cases hp'
      refine ⟨hm, fun o ho => ?_⟩
      show k.dat p o = m.dat p o
      rw [k.dat_at p o ho, m.dat_at p o ho, h.dat, if_neg]
      intro hx
      have h9 := (h.dirty p).2 (.inr ⟨p * 4096 + o, hx.1, hx.2, by omega⟩)
      rw [hp'] at h9
      exact Bool.noConfusion h9,
    own1 := fun x hx => by
      rcases hx with e | e | e | ⟨p, e1, e2⟩
      · exact .inl (.inl e)
      · exact .inl (.inr (.inl e))
      · exact .inl (.inr (.inr (.inl e)))
      · rcases h.old p x e2 with e3 | e3
        · exact .inl (.inr (.inr (.inr ⟨p, h.n ▸ e1, e3⟩)))
        · exact .inr e3,
    own2 := fun x hx => by
      have : k.z = some x := hx
      exact .inl (h.z ▸ this) }
theorem Wrote.atF {m k : Mem} {S a d : Nat} {l : List Nat} (h : Wrote m k S a l d) (hd : l.length = d) : ({ k with wr := k.wr + 1 } : Mem).at = wroteF m.at a l := by
  funext x
  show k.at x = _
  rw [h.dat x]; unfold wroteF; rw [hd]
theorem Stepped.clean' {m : Mem} {b P D S : Nat} : Stepped m m.clean b P D S true :=
  { n := rfl, wr := Nat.le_succ _, small := fun h => h, clean := fun h => Bool.noConfusion h, own1 := fun x hx => .inl hx, own2 := fun x hx => .inl hx }
/-- A page set, as bytes written. -/
theorem wrote_setp {m : Mem} {p g S : Nat} {l : List Nat} (hl : l.length = 4096) (hg : m.blk p = some g ∨ (m.blk p = none ∧ S ≤ g)) : Wrote m ((m.touched p g).put p 0 l) S (p * 4096) l 4096 := by
  have h := (Wrote.start m S (p * 4096) l).step (p := p) (o := 0) (c := 4096) (g := g) (S' := S) (by omega) (by omega) (by omega) (by omega) (by omega) (hg.imp id (fun e => e.2)) (Nat.le_refl _) (fun g' hg' => by
    rcases hg with e | e
    · exact Option.some.inj (hg'.symm.trans e)
    · rw [e.1] at hg'; cases hg')
  rw [List.drop_zero, List.take_of_length_le (by omega)] at h
  exact h

/-- The same memory, nought beyond its pages. -/
def Mem.norm (m : Mem) : Mem := { m with dat := fun p o => if o < 4096 then m.dat p o else 0 }
theorem Mem.norm_dat (m : Mem) (p : Nat) {o : Nat} (h : o < 4096) : m.norm.dat p o = m.dat p o := if_pos h
theorem Mem.norm_at (m : Mem) : m.norm.at = m.at := by
  funext x
  exact m.norm_dat _ (Nat.mod_lt _ (by decide))
theorem Mem.norm_small {m : Mem} (h : ∀ x, m.at x < 256) (p o : Nat) : m.norm.dat p o < 256 := by
  by_cases ho : o < 4096
  · rw [m.norm_dat p ho, m.dat_at p o ho]; exact h _
  · have : m.norm.dat p o = 0 := if_neg ho
    omega
theorem RamAt.norm {w : World} {B b P D : Nat} {m : Mem} (h : RamAt w B b P D m) : RamAt w B b P D m.norm :=
  { head := h.head, zero := h.zero, pages := h.pages, marks := h.marks, bytes := fun p g hp hg => (h.bytes p g hp hg).congr (fun o ho => by rw [m.norm_dat p ho]),
    noughts := fun p hp hn o => by
      by_cases ho : o < 4096
      · rw [m.norm_dat p ho]; exact h.noughts p hp hn o
      · exact if_neg ho,
    low := h.low, apart := h.apart, alone := h.alone, few := h.few, caps := h.caps, room := h.room }
theorem Stepped.norm {m m' : Mem} {b P D S : Nat} {hv : Bool} (h : Stepped m m' b P D S hv) : Stepped m m'.norm b P D S hv :=
  { n := h.n, wr := h.wr, small := fun hs x => by rw [m'.norm_at]; exact h.small hs x, clean := fun e p hp => ⟨(h.clean e p hp).1, fun o ho => by rw [m'.norm_dat p ho]; exact (h.clean e p hp).2 o ho⟩, own1 := h.own1, own2 := h.own2 }
/-- The number of an error. -/
def errV : Int → Value := errM
theorem num_any (c : Int) (w : World) (hg : HandleAt w) : Calls Tryz.prog 10 #[errM c] w fun e w' => e = .returned (.int .i64 c) ∧ Below w.heap.size w w' := by
  by_cases h : c = 0
  · subst h; exact num_nil w
  · rw [errM_some h]; exact num_err c w hg
/-- What a step leaves. -/
def StepOut (w : World) (B b P D N n : Nat) (m : Mem) (r : RP) (hv : Bool) (e : Ending) (w' : World) : Prop := ∃ m' r' bb, e = .returned (.tuple #[.agg (r'.v N n), .bool bb]) ∧ MOut w w' B b P D m m' hv ∧ RefAt w' N n m'.at r' ∧
  (∀ x, r'.owns x → r.owns x ∨ w.heap.size ≤ x) ∧ (∀ x, r'.owns x → ¬ (m'.owns b P D x ∨ m'.z = some x))
end Go.Proofs.YtghpjibjhaomoaaGreatDoor
