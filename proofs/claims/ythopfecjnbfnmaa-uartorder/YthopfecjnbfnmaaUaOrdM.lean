/-
  Plain numbers: a port beside the bytes that wait in it, in order, and what each act makes of both. No Go in sight.
-/
import Derived.Test.YthopfecjnbfnmaaUaMath
namespace Go.Proofs.Ythopfecjnbfnmaa
set_option linter.unusedVariables false

/-- A port in which these bytes wait, in and out. -/
structure Ord (s : U) (li lo : List Nat) (ov : Bool) : Prop where
  ok : s.Ok
  may : mayU s = true
  dl : dlB s = false
  rn : s.rx.n = (li.length : Int)
  rb : ∀ j x, li[j]? = some x → s.rx.b j = x
  tn : s.tx.n = (lo.length : Int)
  tb : ∀ j x, lo[j]? = some x → s.tx.b j = x
  ov : s.ov = ov
theorem Ord.li16 {s : U} {li lo : List Nat} {ov : Bool} (h : Ord s li lo ov) : li.length ≤ 16 := by
  have := mayF.n16 ((mayU_iff s).1 h.may).rx
  have := h.rn
  omega
theorem Ord.lo16 {s : U} {li lo : List Nat} {ov : Bool} (h : Ord s li lo ov) : lo.length ≤ 16 := by
  have := mayF.n16 ((mayU_iff s).1 h.may).tx
  have := h.tn
  omega
theorem ord_zero : Ord zeroU [] [] false :=
  ⟨zeroU_ok, by decide, by decide, rfl, fun j x h => by simp at h, rfl, fun j x h => by simp at h, rfl⟩
theorem withRx_ok {s : U} (ok : s.Ok) {f : F} (h : f.Ok) : (withRx s f).Ok := ⟨h, ok.tx, ok.ie, ok.lc, ok.mc, ok.sc, ok.dl, ok.dm, ok.w0, ok.w1⟩
theorem withTx_ok {s : U} (ok : s.Ok) {f : F} (h : f.Ok) : (withTx s f).Ok := ⟨ok.rx, h, ok.ie, ok.lc, ok.mc, ok.sc, ok.dl, ok.dm, ok.w0, ok.w1⟩
theorem withOv_ok {s : U} (ok : s.Ok) (b : Bool) : (withOv s b).Ok := ⟨ok.rx, ok.tx, ok.ie, ok.lc, ok.mc, ok.sc, ok.dl, ok.dm, ok.w0, ok.w1⟩
theorem withWt_ok {s : U} (ok : s.Ok) {n : Int} (h0 : 0 ≤ n) (h1 : n ≤ 3) : (withWt s n).Ok := ⟨ok.rx, ok.tx, ok.ie, ok.lc, ok.mc, ok.sc, ok.dl, ok.dm, by show _ ≤ n; omega, by show n ≤ _; omega⟩
theorem at_append {l : List Nat} {c j x : Nat} (h : (l ++ [c])[j]? = some x) : (j < l.length ∧ l[j]? = some x) ∨ (j = l.length ∧ x = c) := by
  rcases Nat.lt_trichotomy j l.length with h1 | h1 | h1
  · exact .inl ⟨h1, by rwa [List.getElem?_append_left h1] at h⟩
  · subst h1
    rw [List.getElem?_append_right (Nat.le_refl _)] at h
    simp at h
    exact .inr ⟨rfl, h.symm⟩
  · have := (List.getElem?_eq_some_iff.1 h).1
    simp at this
    omega
theorem put_bytes {f : F} {l : List Nat} (hn : f.n = (l.length : Int)) (hb : ∀ j x, l[j]? = some x → f.b j = x) (c : Nat) : ∀ j x, (l ++ [c])[j]? = some x → (putF f c).b j = x := by
  intro j x h
  show setB f.b f.n.toNat c j = x
  unfold setB
  rcases at_append h with ⟨h1, h2⟩ | ⟨h1, h2⟩
  · rw [if_neg (by omega)]; exact hb j x h2
  · rw [if_pos (by omega)]; exact h2.symm
theorem take_bytes {f : F} {y : Nat} {l : List Nat} (hl : l.length < 16) (hb : ∀ j x, (y :: l)[j]? = some x → f.b j = x) : ∀ j x, l[j]? = some x → (takeF f).b j = x := by
  intro j x h
  show moved f.b j = x
  have hj := (List.getElem?_eq_some_iff.1 h).1
  unfold moved
  rw [if_pos (by omega)]
  exact hb (j + 1) x (by simpa using h)
theorem ord_put_room {s : U} {li lo : List Nat} {ov : Bool} (h : Ord s li lo ov) (hl : li.length < 16) {c : Nat} (hc : c < 256) : Ord (putV s c) (li ++ [c]) lo ov := by
  have hM := (mayU_iff s).1 h.may
  have hr := h.rn
  have e : putV s c = withRx s (putF s.rx c) := by unfold putV putS; rw [if_pos h.may, if_neg (by omega)]
  rw [e]
  refine ⟨withRx_ok h.ok (putF_ok h.ok.rx hM.rx hc), (mayU_iff _).2 ⟨putF_may hM.rx (by omega) c, hM.tx, hM.w0, hM.w3, hM.wt, hM.ie, hM.mc⟩, h.dl, ?_, put_bytes hr h.rb c, h.tn, h.tb, h.ov⟩
  show s.rx.n + 1 = _
  rw [hr]; simp
theorem ord_put_full {s : U} {li lo : List Nat} {ov : Bool} (h : Ord s li lo ov) (hl : ¬ li.length < 16) (c : Nat) : Ord (putV s c) li lo true := by
  have hM := (mayU_iff s).1 h.may
  have hr := h.rn
  have := h.li16
  have e : putV s c = withOv s true := by unfold putV putS; rw [if_pos h.may, if_pos (by omega)]
  rw [e]
  exact ⟨withOv_ok h.ok true, (mayU_iff _).2 ⟨hM.rx, hM.tx, hM.w0, hM.w3, hM.wt, hM.ie, hM.mc⟩, h.dl, hr, h.rb, h.tn, h.tb, rfl⟩
theorem write0 {s : U} {li lo : List Nat} {ov : Bool} (h : Ord s li lo ov) (c : Nat) : writeV s 0 c = (dataW s c, 0) := by
  unfold writeV writeS; rw [if_pos h.may, if_pos rfl]
theorem ord_write_room {s : U} {li lo : List Nat} {ov : Bool} (h : Ord s li lo ov) (hl : lo.length < 16) {c : Nat} (hc : c < 256) : Ord (dataW s c) li (lo ++ [c]) ov := by
  have hM := (mayU_iff s).1 h.may
  have hr := h.tn
  have e : dataW s c = withTx s (putF s.tx c) := by unfold dataW; rw [h.dl, if_neg (by decide), if_neg (by omega)]
  rw [e]
  refine ⟨withTx_ok h.ok (putF_ok h.ok.tx hM.tx hc), (mayU_iff _).2 ⟨hM.rx, putF_may hM.tx (by omega) c, hM.w0, hM.w3, fun hz => ?_, hM.ie, hM.mc⟩, h.dl, h.rn, h.rb, ?_, put_bytes hr h.tb c, h.ov⟩
  · have hz' : s.tx.n + 1 = 0 := hz
    omega
  · show s.tx.n + 1 = _
    rw [hr]; simp
theorem ord_write_full {s : U} {li lo : List Nat} {ov : Bool} (h : Ord s li lo ov) (hl : ¬ lo.length < 16) (c : Nat) : Ord (dataW s c) li lo ov := by
  have hr := h.tn
  have := h.lo16
  have e : dataW s c = s := by unfold dataW; rw [h.dl, if_neg (by decide), if_pos (by omega)]
  rw [e]; exact h
theorem ord_read_none {s : U} {lo : List Nat} {ov : Bool} (h : Ord s [] lo ov) : readV s 0 = (s, 0, 0) := by
  have hr := h.rn
  have hz : s.rx.n = 0 := by simpa using hr
  unfold readV readS dataS
  rw [if_pos h.may, if_pos rfl, h.dl, if_neg (by decide), if_pos hz]
theorem ord_read_some {s : U} {x : Nat} {t lo : List Nat} {ov : Bool} (h : Ord s (x :: t) lo ov) : readV s 0 = (withRx s (takeF s.rx), x, 0) ∧ Ord (withRx s (takeF s.rx)) t lo ov := by
  have hM := (mayU_iff s).1 h.may
  have hr := h.rn
  have hl := h.li16
  simp only [List.length_cons] at hr hl
  refine ⟨?_, withRx_ok h.ok (takeF_ok h.ok.rx hM.rx), (mayU_iff _).2 ⟨takeF_may hM.rx (by omega), hM.tx, hM.w0, hM.w3, hM.wt, hM.ie, hM.mc⟩, h.dl, ?_, take_bytes (by omega) h.rb, h.tn, h.tb, h.ov⟩
  · unfold readV readS dataS
    rw [if_pos h.may, if_pos rfl, h.dl, if_neg (by decide), if_neg (by omega), h.rb 0 x rfl]
  · show s.rx.n - 1 = _
    omega
theorem ord_tick_idle {s : U} {li : List Nat} {ov : Bool} (h : Ord s li [] ov) : tickV s = (s, 0, false) := by
  have hr := h.tn
  have hz : s.tx.n = 0 := by simpa using hr
  unfold tickV tickS
  rw [if_pos h.may, if_pos hz]
theorem ord_tick_wait {s : U} {x : Nat} {t li : List Nat} {ov : Bool} (h : Ord s li (x :: t) ov) (hw : s.wt < 3) : tickV s = (withWt s (s.wt + 1), 0, false) ∧ Ord (withWt s (s.wt + 1)) li (x :: t) ov := by
  have hM := (mayU_iff s).1 h.may
  have h0 := hM.w0
  have hr := h.tn
  simp only [List.length_cons] at hr
  refine ⟨?_, withWt_ok h.ok (by omega) (by omega), (mayU_iff _).2 ⟨hM.rx, hM.tx, by show 0 ≤ s.wt + 1; omega, by show s.wt + 1 ≤ 3; omega, fun hz => ?_, hM.ie, hM.mc⟩, h.dl, h.rn, h.rb, h.tn, h.tb, h.ov⟩
  · unfold tickV tickS
    rw [if_pos h.may, if_neg (by omega), if_pos hw]
  · have hz' : s.tx.n = 0 := hz
    omega
theorem ord_tick_out {s : U} {x : Nat} {t li : List Nat} {ov : Bool} (h : Ord s li (x :: t) ov) (hw : ¬ s.wt < 3) : tickV s = (withTx (withWt s 0) (takeF s.tx), x, true) ∧ s.wt = 3 ∧ Ord (withTx (withWt s 0) (takeF s.tx)) li t ov := by
  have hM := (mayU_iff s).1 h.may
  have h3 := hM.w3
  have hr := h.tn
  have hl := h.lo16
  simp only [List.length_cons] at hr hl
  refine ⟨?_, by omega, withTx_ok (withWt_ok h.ok (by omega) (by omega)) (takeF_ok h.ok.tx hM.tx), (mayU_iff _).2 ⟨hM.rx, takeF_may hM.tx (by omega), by show (0 : Int) ≤ 0; omega, by show (0 : Int) ≤ 3; omega, fun _ => rfl, hM.ie, hM.mc⟩, h.dl, h.rn, h.rb, ?_, take_bytes (by omega) h.tb, h.ov⟩
  · unfold tickV tickS
    rw [if_pos h.may, if_neg (by omega), if_neg hw, h.tb 0 x rfl]
  · show s.tx.n - 1 = _
    omega
end Go.Proofs.Ythopfecjnbfnmaa
