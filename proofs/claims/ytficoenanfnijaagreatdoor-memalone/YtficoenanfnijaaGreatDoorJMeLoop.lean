/-
  A memory and the document's beside it, in a loop over acts: what stays so from round to round.
-/
import Derived.Test.YtficoenanfnijaaGreatDoorJMeAct2
import Derived.Test.YtficoenanfnijaaGreatDoorJMeZ2
namespace Go.Proofs.YtficoenanfnijaaGreatDoor
open Go.RowKit
set_option linter.unusedVariables false
attribute [local go_sem ↓] Go.wp_at_zero Go.wp_at_succ

/-- An act as it came in: its bytes may be any number. -/
structure ActRaw (w : World) (B : Nat) (a : Act5) (l : List Nat) : Prop where
  kd : -9223372036854775808 ≤ a.kd ∧ a.kd ≤ 9223372036854775807
  at_ : a.at_ < 4294967296
  k : -9223372036854775808 ≤ a.k ∧ a.k ≤ 9223372036854775807
  v : a.v < 4294967296
  len : l.length = a.L
  cap : a.L ≤ a.sc ∧ a.sc ≤ maxLen
  small : ∀ y, y ∈ l → y < 256
  src : a.L = 0 ∨ ∃ sb so, a.sa = some ⟨sb, so, none⟩ ∧ sb < B ∧ ∀ j v, (byteV l)[j]? = some v → w.cell? ⟨sb, so + j, none⟩ = some v
theorem ActRaw.few {w : World} {B : Nat} {a : Act5} {l : List Nat} (h : ActRaw w B a l) (hf : a.L ≤ 20000) : ActAt w B a l :=
  { kd := h.kd, at_ := h.at_, k := h.k, v := h.v, len := h.len, few := hf, cap := h.cap, small := h.small, src := h.src }
/-- A list of acts as it came in. -/
structure ActsAt (w : World) (B : Nat) (sa : Option Addr) (len : Nat) (A : Nat → Act5) (L : Nat → List Nat) : Prop where
  lies : ∀ j, j < len → ∃ b o, sa = some ⟨b, o, none⟩ ∧ b < B ∧ ∀ i v, (A j).cells[i]? = some v → w.cell? ⟨b, o + j * 5 + i, none⟩ = some v
  raw : ∀ j, j < len → ActRaw w B (A j) (L j)
theorem ActsAt.at {w w' : World} {B : Nat} {sa : Option Addr} {len : Nat} {A : Nat → Act5} {L : Nat → List Nat} (h : ActsAt w B sa len A L) (hb : Below B w w') {j : Nat} (hj : j < len) :
    ∃ b o, sa = some ⟨b, o, none⟩ ∧ w'.cell? ⟨b, o + j * 5, none⟩ = some (.int .i64 (A j).kd) ∧ w'.cell? ⟨b, o + j * 5 + 1, none⟩ = some (.int .u32 ((A j).at_ : Nat)) ∧ w'.cell? ⟨b, o + j * 5 + 2, none⟩ = some (.int .i64 (A j).k) ∧ w'.cell? ⟨b, o + j * 5 + 3, none⟩ = some (.int .u32 ((A j).v : Nat)) ∧ w'.cell? ⟨b, o + j * 5 + 4, none⟩ = some (.slice (A j).sa (A j).L (A j).sc) := by
  obtain ⟨b, o, e, hb2, hc⟩ := h.lies j hj
  have hk : ∀ i v, (A j).cells[i]? = some v → w'.cell? ⟨b, o + j * 5 + i, none⟩ = some v := fun i v hv => (hb.cell (p := ⟨b, o + j * 5 + i, none⟩) hb2).trans (hc i v hv)
  exact ⟨b, o, e, hk 0 _ rfl, hk 1 _ rfl, hk 2 _ rfl, hk 3 _ rfl, hk 4 _ rfl⟩
theorem ActsAt.act {w w' : World} {B : Nat} {sa : Option Addr} {len : Nat} {A : Nat → Act5} {L : Nat → List Nat} (h : ActsAt w B sa len A L) (hb : Below B w w') {j : Nat} (hj : j < len) (hf : (A j).L ≤ 20000) : ActAt w' B (A j) (L j) :=
  ((h.raw j hj).few hf).bl hb
set_option maxHeartbeats 1000000 in
theorem big_any (a : Act5) (w : World) (h : a.L ≤ maxLen) : Calls Tryz.prog 7 #[.agg a.cells] w fun e w' => e = .returned (.bool (decide (20000 < a.L))) ∧ Below w.heap.size w w' := by
  unfold maxLen at h
  have HT : Hid (decide ((20000 : Int) < ((a.L : Nat) : Int)) = decide (20000 < a.L)) := hide (by
    by_cases hx : 20000 < a.L
    · rw [decide_eq_true hx, decide_eq_true (by omega)]
    · rw [decide_eq_false hx, decide_eq_false (by omega)])
  cases hd : decide (20000 < a.L) with
  | true =>
    rw [hd] at HT
    have t1 := HT.out
    unfold Act5.cells
    go_enter Tryz.func7, Tryz.ntmps7
    go_wp2
    go_ret
    exact ⟨rfl, below_one _ _⟩
  | false =>
    rw [hd] at HT
    have t1 := HT.out
    unfold Act5.cells
    go_enter Tryz.func7, Tryz.ntmps7
    go_wp2
    go_ret
    exact ⟨rfl, below_one _ _⟩

/-- What stays so: the memory m and the document's r (kept in a block c of its own) are alike; what Z names lies as it did in w1; what Z' names is no page of noughts of m's. -/
structure LoopIn (w w1 wr : World) (B b P D N n c : Nat) (Z Z' : Nat → Prop) (m : Mem) (r : RP) (cnt : Nat) : Prop where
  ram : RamAt wr B b P D m
  ref : RefAt wr N n m.at r
  base : B ≤ wr.heap.size
  off : ∀ x, r.owns x → ¬ (m.owns b P D x ∨ m.z = some x)
  small : ∀ p j, m.dat p j < 256
  row : RowAt wr c (r.v N n) 31
  offm : ¬ (m.owns b P D c ∨ m.z = some c)
  offr : ¬ r.owns c
  low : B ≤ c
  bel : Below B w wr
  hand : HandleAt w
  glow : 0 < B
  same : m.n = n
  count : m.wr ≤ cnt
  stat : ∀ x, Z x → x < wr.heap.size ∧ ¬ m.owns b P D x ∧ x ≠ c ∧ wr.heap[x]? = w1.heap[x]?
  stat' : ∀ x, Z' x → Z x ∧ m.z ≠ some x
theorem LoopIn.sin {w w1 wr : World} {B b P D N n c cnt : Nat} {Z Z' : Nat → Prop} {m : Mem} {r : RP} (h : LoopIn w w1 wr B b P D N n c Z Z' m r cnt) (hc : cnt ≤ 1000000) : StepIn wr B b P D N n m r :=
  { ram := h.ram, ref := h.ref, base := h.base, off := h.off, handle := handle_bl h.hand h.glow h.bel, low := h.glow, count := Nat.le_trans h.count hc, same := h.same }
theorem LoopIn.bl {w w1 wr w' : World} {B b P D N n c cnt : Nat} {Z Z' : Nat → Prop} {m : Mem} {r : RP} (h : LoopIn w w1 wr B b P D N n c Z Z' m r cnt) (hb : Below wr.heap.size wr w') : LoopIn w w1 w' B b P D N n c Z Z' m r cnt :=
  { ram := h.ram.bl hb, ref := h.ref.bl hb, base := Nat.le_trans h.base hb.size, off := h.off, small := h.small, row := h.row.bl hb, offm := h.offm, offr := h.offr, low := h.low, bel := h.bel.trans (hb.mono h.base), hand := h.hand, glow := h.glow, same := h.same, count := h.count,
    stat := fun x hx => by (obtain ⟨h1, h2, h3, h4⟩ := h.stat x hx; exact ⟨Nat.lt_of_lt_of_le h1 hb.size, h2, h3, (hb.block x h1).trans h4⟩), stat' := h.stat' }
theorem LoopIn.dr {w w1 wr : World} {B b P D N n c cnt : Nat} {Z Z' : Nat → Prop} {m : Mem} {r : RP} (h : LoopIn w w1 wr B b P D N n c Z Z' m r cnt) : LoopIn w w1 wr.drew B b P D N n c Z Z' m r cnt := h.bl (Below.refl _ wr).drew
/-- A memory whose bytes stay: the document's stays beside it. -/
theorem LoopIn.mem {w w1 wr w' : World} {B b P D N n c cnt : Nat} {Z Z' : Nat → Prop} {m m' : Mem} {r : RP} {hv : Bool} (h : LoopIn w w1 wr B b P D N n c Z Z' m r cnt) (hM : MOut wr w' B b P D m m' hv) (he : m'.at = m.at) (hs : ∀ p j, m'.dat p j < 256) (hc : m'.wr ≤ cnt) : LoopIn w w1 w' B b P D N n c Z Z' m' r cnt := by
  have hno : ∀ x, x < wr.heap.size → ¬ m.owns b P D x → ¬ m'.owns b P D x := fun x hx hn h1 => (hM.st.own1 x h1).elim hn (fun h2 => by omega)
  have hnz : ∀ x, x < wr.heap.size → m.z ≠ some x → m'.z ≠ some x := fun x hx hn h1 => (hM.st.own2 x h1).elim hn (fun h2 => by omega)
  exact { ram := hM.ram, ref := by (rw [he]; exact h.ref.same (fun x hx => hM.kept.other x (h.ref.lt hx) (fun h1 => h.off x hx (.inl h1)))), base := Nat.le_trans h.base hM.kept.size,
          off := fun x hx hh => hh.elim (hno x (h.ref.lt hx) (fun h1 => h.off x hx (.inl h1))) (hnz x (h.ref.lt hx) (fun h1 => h.off x hx (.inr h1))), small := hs,
          row := h.row.kept hM.kept (fun h1 => h.offm (.inl h1)), offm := fun hh => hh.elim (hno c h.row.lt (fun h1 => h.offm (.inl h1))) (hnz c h.row.lt (fun h1 => h.offm (.inr h1))), offr := h.offr, low := h.low,
          bel := h.bel.trans hM.kept.below, hand := h.hand, glow := h.glow, same := hM.st.n.trans h.same, count := hc,
          stat := fun x hx => by (obtain ⟨h1, h2, h3, h4⟩ := h.stat x hx; exact ⟨Nat.lt_of_lt_of_le h1 hM.kept.size, hno x h1 h2, h3, (hM.kept.other x h1 h2).trans h4⟩),
          stat' := fun x hx => ⟨(h.stat' x hx).1, hnz x (h.stat x (h.stat' x hx).1).1 (h.stat' x hx).2⟩ }
/-- One round. -/
theorem LoopIn.next {w w1 wr W5 : World} {B b P D N n c cnt : Nat} {Z Z' : Nat → Prop} {m m' : Mem} {r r' : RP} {hv : Bool} (h : LoopIn w w1 wr B b P D N n c Z Z' m r cnt) (hM : MOut wr W5 B b P D m m' hv) (hRf : RefAt W5 N n m'.at r')
    (hg : ∀ x, r'.owns x → r.owns x ∨ wr.heap.size ≤ x) (ho : ∀ x, r'.owns x → ¬ (m'.owns b P D x ∨ m'.z = some x)) :
    LoopIn w w1 (W5.setCells c 0 [.slice (some ⟨r'.gB, 0, none⟩) N r'.cB, .slice (some ⟨r'.gD, 0, none⟩) n r'.cD, .int .i64 r'.wr]) B b P D N n c Z Z' m'.norm r' (cnt + 1) := by
  have hon := only_setCells c 0 [.slice (some ⟨r'.gB, 0, none⟩) N r'.cB, .slice (some ⟨r'.gD, 0, none⟩) n r'.cD, .int .i64 r'.wr] W5
  have hno : ∀ x, x < wr.heap.size → ¬ m.owns b P D x → ¬ m'.owns b P D x := fun x hx hn h1 => (hM.st.own1 x h1).elim hn (fun h2 => by omega)
  have hnz : ∀ x, x < wr.heap.size → m.z ≠ some x → m'.z ≠ some x := fun x hx hn h1 => (hM.st.own2 x h1).elim hn (fun h2 => by omega)
  have hcm : ¬ (m'.owns b P D c ∨ m'.z = some c) := fun hh => hh.elim (hno c h.row.lt (fun h1 => h.offm (.inl h1))) (hnz c h.row.lt (fun h1 => h.offm (.inr h1)))
  have hcr : ¬ r'.owns c := fun hh => (hg c hh).elim h.offr (fun h2 => by have := h.row.lt; omega)
  have hrow : RowAt W5 c (r.v N n) 31 := h.row.kept hM.kept (fun h1 => h.offm (.inl h1))
  have hsz : wr.heap.size ≤ (W5.setCells c 0 [.slice (some ⟨r'.gB, 0, none⟩) N r'.cB, .slice (some ⟨r'.gD, 0, none⟩) n r'.cD, .int .i64 r'.wr]).heap.size := by rw [hon.size]; exact hM.kept.size
  exact { ram := (hM.ram.same (fun x hx => hon.row x (fun e => hcm (e ▸ hx)))).norm, ref := by (rw [m'.norm_at]; exact hRf.same (fun x hx => hon.row x (fun e => hcr (e ▸ hx)))), base := Nat.le_trans h.base hsz, off := ho,
          small := Mem.norm_small (hM.st.small (fun x => h.small _ _)), row := RowAt.puts _ 0 hrow, offm := hcm, offr := hcr, low := h.low, bel := hon.bel _ _ h.low (h.bel.trans hM.kept.below), hand := h.hand, glow := h.glow, same := hM.st.n.trans h.same,
          count := Nat.le_trans hM.st.wr (Nat.succ_le_succ h.count),
          stat := fun x hx => by (obtain ⟨h1, h2, h3, h4⟩ := h.stat x hx; exact ⟨Nat.lt_of_lt_of_le h1 hsz, hno x h1 h2, h3, (hon.row x h3).trans ((hM.kept.other x h1 h2).trans h4)⟩),
          stat' := fun x hx => ⟨(h.stat' x hx).1, hnz x (h.stat x (h.stat' x hx).1).1 (h.stat' x hx).2⟩ }
end Go.Proofs.YtficoenanfnijaaGreatDoor
