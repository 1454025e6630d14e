/- Several texts in one: L8SureTo, AkA. -/
import Derived.Test.YtjbfpmackocgnaaGx2
import Derived.Test.YtjbfpmackocgnaaBigB
import Derived.Test.YtjbfpmackocgnaaGaA
import Derived.Test.YtjbfpmackocgnaaWrR
import Derived.Test.YtjbfpmackocgnaaDwA
namespace Go.Proofs.Ytjbfpmackocgnaa
open Go.ChangeShapes Go.WideShapes Go.ChangeAt Go.RowKit
set_option linter.unusedVariables false
set_option linter.unusedSimpArgs false

theorem sure_spec : ∀ ms : List Wd, sureL ms ≤ ms.length ∧ (∀ i (h : i < ms.length), i < sureL ms → ms[i].done = true) ∧ ∀ h : sureL ms < ms.length, ms[sureL ms].done = false
  | [] => ⟨Nat.le_refl _, (fun i h => by simp at h), fun h => by simp at h⟩
  | e :: l => by
    obtain ⟨h1, h2, h3⟩ := sure_spec l
    cases hd : e.done with
    | true =>
      have es : sureL (e :: l) = sureL l + 1 := by simp [sureL, hd]
      rw [es]
      refine ⟨by simpa using h1, fun i hi hlt => ?_, fun h => ?_⟩
      · cases i with
        | zero => simpa using hd
        | succ i => simpa using h2 i (by simpa using hi) (by omega)
      · simp only [es, List.getElem_cons_succ]
        exact h3 (by simpa using h)
    | false =>
      have es : sureL (e :: l) = 0 := by simp [sureL, hd]
      rw [es]
      refine ⟨Nat.zero_le _, fun i hi hlt => by omega, fun h => ?_⟩
      simp only [es, List.getElem_cons_zero]
      exact hd
end Go.Proofs.Ytjbfpmackocgnaa
namespace Go.Proofs.Ytjbfpmackocgnaa
open Go.ChangeShapes Go.WideShapes Go.ChangeAt Go.RowKit
set_option linter.unusedVariables false

theorem sure_mono : ∀ (ms ns : List Wd), ms.length = ns.length → (∀ i (h : i < ms.length) (h' : i < ns.length), ms[i].done = true → ns[i].done = true) → sureL ms ≤ sureL ns
  | [], [], _, _ => Nat.le_refl _
  | [], _ :: _, h, _ => by simp at h
  | _ :: _, [], h, _ => by simp at h
  | a :: l, b :: k, h, hd => by
    have ih := sure_mono l k (by simpa using h) (fun i h1 h2 => by have := hd (i + 1) (by simpa using h1) (by simpa using h2); simpa using this)
    have h0 := hd 0 (by simp) (by simp)
    simp only [List.getElem_cons_zero] at h0
    cases ha : a.done with
    | false => simp [sureL, ha]
    | true => simp [sureL, ha, h0 ha]; exact ih
theorem ack_word {ds : List Int} {cop node : Int} {e : Wd} (h : wdP ds cop e) (hn : 0 ≤ node ∧ node ≤ (ds.length : Int) - 1) : wdP ds cop (ackW ds cop node e) := by
  obtain ⟨h1, ⟨hc, ha⟩, -⟩ := h
  have hp : nodesP ds cop (putL node e.acks) := by
    refine ⟨hc, ?_⟩
    rw [ascP_iff] at ha ⊢
    refine ⟨?_, ?_⟩
    · first | exact putL_asc ha.1 | (intro x hx; rcases mem_putL.1 hx with rfl | hx; exact hn; exact ha.1 x hx)
    · first | exact putL_asc ha.2 | (intro x hx; rcases mem_putL.1 hx with rfl | hx; exact hn; exact ha.2 x hx)
  refine ⟨h1, hp, ?_⟩
  unfold ackW
  simp only
  exact (@decide_eq_true_iff _ (Classical.propDecidable _)).symm
theorem ack_wr {ds : List Int} {cop off node : Int} {m : Wt} (h : wrP ds cop m) (hp : ackP ds m.words off node) : wrP ds cop (ackL ds cop m off node) := by
  obtain ⟨h1, h2, h3, h4, h5⟩ := h
  obtain ⟨⟨p1, p2⟩, p3, p4⟩ := hp
  have hk : off.toNat - 1 < m.words.length := by omega
  have ek : atW m.words (off.toNat - 1) = m.words[off.toNat - 1] := by unfold atW; rw [getD_lt _ hk]
  refine ⟨h1, h2, by simpa [ackL] using h3, fun i hi => ?_, ?_⟩
  · have hi' : i < m.words.length := by simpa [ackL] using hi
    by_cases e : i = off.toNat - 1
    · subst e
      simp only [ackL, List.getElem_set_self]
      rw [ek]
      exact ack_word (h4 _ hk) p3
    · simp only [ackL]
      rw [List.getElem_set_ne (Ne.symm e)]
      exact h4 i hi'
  · simp only [ackL]
    unfold openN at h5 ⊢
    rw [ek] at p4
    have q : 0 < m.words.countP (fun e => !e.done) := by
      rw [List.countP_pos_iff]
      exact ⟨_, List.getElem_mem hk, by simp [p4]⟩
    rw [List.countP_set (h := hk)]
    have e1 : (if (!m.words[off.toNat - 1].done) = true then 1 else 0) = 1 := by simp [p4]
    rw [e1]
    have e2 : ∀ b : Bool, (if (!b) = true then 1 else 0) ≤ 1 := by intro b; cases b <;> simp
    have := e2 (ackW ds cop node (atW m.words (off.toNat - 1))).done
    omega
theorem ack_fit {ds : List Int} {cop off node : Int} {m : Wt} (h : fitW 60 m) (hn : okInt node) (hw : wrP ds cop m) (hp : ackP ds m.words off node) : okWriter (ackL ds cop m off node) ∧ sizWriter (ackL ds cop m off node) ≤ 1048576 := by
  have q := h.acked (ds := ds) (cop := cop) (off := off) hn
  rw [ackM_yes hw hp] at q
  exact ⟨q.ok, q.siz (by omega)⟩
end Go.Proofs.Ytjbfpmackocgnaa
