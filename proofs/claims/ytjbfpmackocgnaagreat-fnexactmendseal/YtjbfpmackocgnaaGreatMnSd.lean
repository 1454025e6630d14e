/- Mends, as the exact laws handle them: marked, held, whole. -/
import Derived.Test.YtjbfpmackocgnaaGreatMnSc
namespace Go.Proofs.YtjbfpmackocgnaaGreat
open Go.ChangeShapes Go.WideShapes Go.ChangeAt Go.RowKit
set_option linter.unusedVariables false
set_option linter.unusedSimpArgs false
set_option maxRecDepth 100000

theorem OwN.keepB {lo hi : Nat} {v : Value} {m : List Int} {w w' : World} (h : OwN lo hi v m w) (hb : m = [] ∨ w'.heap[blockOf v]? = w.heap[blockOf v]?) : OwN lo hi v m w' := by
  by_cases hm : m = []
  · obtain ⟨⟨h0, a, cap, e, hcap, -⟩, hl⟩ := h
    exact ⟨⟨h0, a, cap, e, hcap, .inl hm⟩, hl⟩
  · have hlt := h.1.bs.lt.resolve_left hm
    obtain ⟨n1, n2, n3⟩ := h.narrow hm
    have q := (n1.sits hlt).all w' (fun k h1 h2 => by
      have : k = blockOf v := by omega
      subst this
      exact hb.resolve_left hm)
    exact ⟨q.1.mono n2, .inr n3⟩
theorem OwEntryS.keepB {lo hi : Nat} {v : Value} {m : List Ent} {w w' : World} (h : OwEntryS lo hi v m w) (hb : m = [] ∨ w'.heap[blockOf v]? = w.heap[blockOf v]?) : OwEntryS lo hi v m w' := by
  by_cases hm : m = []
  · obtain ⟨⟨h0, a, cap, e, hcap, -⟩, hl⟩ := h
    exact ⟨⟨h0, a, cap, e, hcap, .inl hm⟩, hl⟩
  · have hlt := h.1.lt.resolve_left hm
    obtain ⟨n1, n2, n3⟩ := h.narrow hm
    have q := (n1.sits hlt).all w' (fun k h1 h2 => by
      have : k = blockOf v := by omega
      subst this
      exact hb.resolve_left hm)
    exact ⟨q.1.mono n2, .inr n3⟩
/-- Lists are kept where another block is marked. -/
theorem OwL.marked {lo hi b1 b2 : Nat} {v u : Value} {rs : List (Nst (List Int))} {w w' : World} {p : Prop} (h : OwL lo hi v rs w) (hW : Wr b1 b2 w w') (hd : (p ∧ b1 = 0 ∧ b2 = 0) ∨ (¬ p ∧ b1 = blockOf u ∧ b2 = blockOf u + 1)) (ho : p ∨ Off (blockOf u) v rs) : OwL lo hi v rs w' :=
  h.keep fun k hk hn => hW.block k hk (by
    rcases hd with ⟨-, rfl, rfl⟩ | ⟨hp, rfl, rfl⟩
    · exact .inr (Nat.zero_le _)
    · have := ho.resolve_left hp
      by_cases e : k = blockOf u
      · subst e; exact absurd this hn
      · omega)
theorem Off.mk {k b : Nat} {v : Value} {rs : List (Nst (List Int))} (h : Off b v rs) : Off b v (mkLs k rs) := by
  refine ⟨?_, fun p hp => ?_⟩
  · rcases h.1 with h | h
    · left; subst h; rfl
    · exact .inr h
  · obtain ⟨i, hi, rfl⟩ := List.mem_iff_getElem.1 hp
    have hi' : i < rs.length := by rw [mkLs_len] at hi; exact hi
    rw [mkLs_at k rs i hi', sv_mk]
    rcases h.2 _ (List.getElem_mem hi') with h | h
    · exact .inl ((nil_of_len (marksN_len _ _)).2 h)
    · exact .inr h
theorem nilM {k : Nat} {m : List Int} : marksN k m.length = [] ↔ m = [] := nil_of_len (marksN_len _ _)
set_option maxHeartbeats 4000000 in
theorem markMend_ (lo hi : Nat) (v : Value) (m : Mn) (k0 : Nat) (w : World) (hk : k0 ≤ 268435456) (hl : cntMend m ≤ 268435456) (h : Sits (OwMend lo hi v m) lo hi w) :
    Calls Tryz.prog 37 #[v, .int .i64 (k0 : Int)] w fun e w' => e = .returned (.int .i64 ((k0 + cntMend m : Nat) : Int)) ∧ Sits (OwMend lo hi v (mkMend k0 m)) lo hi w' ∧ Wr lo hi w w' := by
  have hfit := h.fit
  obtain ⟨sv, ev, wv, rs, rfl, hrs, o1, o2, o3, s1, s2, s3⟩ := h.now
  have hb0 : ∀ o, Below w.heap.size w (w.alloc o) := fun o => (Below.refl _ _).alloc (Nat.le_refl _) o
  have hc1 : m.sealed.length ≤ 268435456 := by unfold cntMend at hl; omega
  have hcs : m.sealed.length + cntEntryS m.seen ≤ 268435456 := by unfold cntMend at hl; omega
  have hc2 : cntEntryS m.seen ≤ 268435456 := by unfold cntMend at hl; omega
  have hc3 : sumL (rs.map Nst.m) ≤ 268435456 := by rw [hrs]; unfold cntMend cntIntSS at hl; omega
  have hrl : rs.length ≤ 9223372036854775807 := o3.1.rw.1
  have C1 := dHide fun o => markN_in lo hi sv m.sealed k0 (w.alloc o) (by omega) (by omega) (by simp; omega) (o1.wr (Wr.of_below (lo := 0) (hi := 0) (hb0 o)) (.inr (.inr (Nat.zero_le _))))
  have P2 := dHide fun o => o2.wr (Wr.of_below (lo := 0) (hi := 0) (hb0 o)) (.inr (.inr (Nat.zero_le _)))
  have P3 := dHide fun o => o3.keep (w' := w.alloc o) (fun k hk _ => (hb0 o).block k hk)
  have C2 := dHide fun W (hW : hi ≤ W.heap.size) h => markEntryS_in lo hi ev m.seen (k0 + m.sealed.length) W (by omega) (by omega) hW h
  have C3 := dHide fun W (hW : hi ≤ W.heap.size) h => markIntSS_in lo hi wv rs (k0 + m.sealed.length + cntEntryS m.seen) W (by omega) (by omega) hrl hW h
  have HRS := dHide hrs
  have EF : Hid (∀ W, hi ≤ W.heap.size → OwN lo hi sv (marksN k0 m.sealed.length) W → OwEntryS lo hi ev (mkEntryS (k0 + m.sealed.length) m.seen) W → OwL lo hi wv (mkLs (k0 + m.sealed.length + cntEntryS m.seen) rs) W → Sits (OwMend lo hi (.agg #[.int .i64 m.bye, .int .i64 m.epoch, sv, ev, .bool m.planned, wv]) (mkMend k0 m)) lo hi W) := fun W hW h1 h2 h3 => OwMend.sits ⟨sv, ev, wv, _, rfl, by rw [mkLs_m, hrs]; rfl, h1, h2, h3, by
    rcases s1 with h | h | h
    · exact .inl (nilM.2 h)
    · exact .inr (.inl (mkEntryS_nil.2 h))
    · exact .inr (.inr h), by
    rcases s2 with h | h
    · exact .inl (nilM.2 h)
    · exact .inr h.mk, by
    rcases s3 with h | h
    · exact .inl (mkEntryS_nil.2 h)
    · exact .inr h.mk⟩ hW
  have EK : ((k0 + cntMend m : Nat) : Int) = ((k0 + m.sealed.length + cntEntryS m.seen + sumL (rs.map Nst.m) : Nat) : Int) := by rw [hrs]; unfold cntMend cntIntSS; omega
  rw [EK]
  have S1 := dHide s1
  have S2 := dHide s2
  have S3 := dHide s3
  obtain ⟨-, sa, sc, rfl, -, -⟩ := o1.rd
  obtain ⟨ea, ec, rfl, -⟩ := formEntryS o2.rd
  obtain ⟨-, wa, wc, rfl, -, -⟩ := o3.1.rw
  clear h o1 o2 o3 s1 s2 s3 hk hl EK hrs
  go_enter Tryz.func37, Tryz.ntmps37
  go_wp2_with fail
  have X0 := Bx.new w [.int .i64 m.bye, .int .i64 m.epoch, .slice sa m.sealed.length sc, .slice ea m.seen.length ec, .bool m.planned, .slice wa rs.length wc] 30
  refine (dUnhide C1 _).mono ?_
  rintro r w1 ⟨rfl, o1, ⟨b1, b2, d1, hd1⟩, wr1⟩
  have L2 := (dUnhide P2 _).wr d1 (by
    rcases hd1 with ⟨h, rfl, rfl⟩ | ⟨h, rfl, rfl⟩
    · exact .inr (.inr (Nat.zero_le _))
    · rcases dUnhide S1 with h' | h' | h'
      · exact absurd h' h
      · exact .inl h'
      · exact .inr (by omega))
  have L3 := (dUnhide P3 _).marked d1 hd1 (dUnhide S2)
  have z1 : hi ≤ w1.heap.size := by have := wr1.size; simp at this; omega
  have XX : Bx w1 w.heap.size [.int .i64 m.bye, .int .i64 m.epoch, .slice sa m.sealed.length sc, .slice ea m.seen.length ec, .bool m.planned, .slice wa rs.length wc] := fun i u hu => (World.cell?_of_block (a := ⟨w.heap.size, i, none⟩) (wr1.block w.heap.size (by simp) (.inr hfit))).trans (X0 i u hu)
  have k3 := XX 3 _ rfl
  have zs1 : w.heap.size < w1.heap.size := dCell_lt k3
  have D1 := dHide ((Wr.of_below (hb0 _)).trans wr1)
  have C2' := dHide (dUnhide C2 w1 z1 L2)
  clear C1 P2 P3 d1 hd1 wr1 L2 C2 X0 hb0
  have O1 := dHide o1
  clear o1
  go_wp2_with fail
  refine (dUnhide C2').mono ?_
  rintro r w2 ⟨rfl, o2, ⟨b1', b2', d2, hd2⟩, wr2⟩
  have K2 := (dUnhide O1).wr d2 (by
    rcases hd2 with ⟨h, rfl, rfl⟩ | ⟨h, rfl, rfl⟩
    · exact .inr (.inr (Nat.zero_le _))
    · rcases dUnhide S1 with h' | h' | h'
      · exact .inl (nilM.2 h')
      · exact absurd h' h
      · exact .inr (by omega))
  have L3' := L3.marked d2 hd2 (dUnhide S3)
  have z2 : hi ≤ w2.heap.size := Nat.le_trans z1 wr2.size
  have k5 : w2.cell? ⟨w.heap.size, 5, none⟩ = some (.slice wa rs.length wc) := (World.cell?_of_block (a := ⟨w.heap.size, 5, none⟩) (wr2.block w.heap.size zs1 (.inr hfit))).trans (XX 5 _ rfl)
  have D2 := dHide ((dUnhide D1).trans wr2)
  have C3' := dHide (dUnhide C3 w2 z2 L3')
  have O2 := dHide o2
  have O1' := dHide K2
  clear C2' d2 hd2 wr2 K2 o2 O1 D1 k3 XX L3 L3' C3
  go_wp2_with fail
  refine (dUnhide C3').mono ?_
  rintro r w3 ⟨rfl, o3, d3, wr3⟩
  have Q1 := (dUnhide O1').keepB (w' := w3) (by
    by_cases hm : m.sealed = []
    · exact .inl (nilM.2 hm)
    · refine .inr (d3 _ ((dUnhide O1').1.bs.lt.resolve_left (fun q => hm (nilM.1 q))) ((dUnhide S2).resolve_left hm).2))
  have Q2 := (dUnhide O2).keepB (w' := w3) (by
    by_cases hm : m.seen = []
    · exact .inl (mkEntryS_nil.2 hm)
    · refine .inr (d3 _ ((dUnhide O2).1.lt.resolve_left (fun q => hm (mkEntryS_nil.1 q))) ((dUnhide S3).resolve_left hm).2))
  have Q := dHide (dUnhide EF w3 (Nat.le_trans z2 wr3.size) Q1 Q2 o3)
  have D3 := dHide ((dUnhide D2).trans wr3)
  have HR := dHide (dUnhide HRS)
  clear C3' d3 wr3 Q1 Q2 o3 O1' O2 D2 k5 EF S1 S2 S3
  go_wp2
  go_ret
  exact ⟨by simp, by simpa [dUnhide HRS] using dUnhide Q, dUnhide D3⟩
set_option maxHeartbeats 2000000 in
theorem heldMend_ (v : Value) (m : Mn) (k0 : Nat) (w : World) (hk : k0 ≤ 268435456) (hl : cntMend m ≤ 268435456) (h : RdMend v (mkMend k0 m) w) :
    Calls Tryz.prog 39 #[v, .int .i64 (k0 : Int)] w fun e w' => e = .returned (.int .i64 ((k0 + cntMend m : Nat) : Int)) ∧ Below w.heap.size w w' := by
  have hb0 : ∀ o, Below w.heap.size w (w.alloc o) := fun o => (Below.refl _ _).alloc (Nat.le_refl _) o
  have hc1 : m.sealed.length ≤ 268435456 := by unfold cntMend at hl; omega
  have hcs : m.sealed.length + cntEntryS m.seen ≤ 268435456 := by unfold cntMend at hl; omega
  have hc2 : cntEntryS m.seen ≤ 268435456 := by unfold cntMend at hl; omega
  have hc3 : sumL m.wrote ≤ 268435456 := by unfold cntMend cntIntSS at hl; omega
  obtain ⟨sv, ev, wv, rfl, r1, r2, r3⟩ := h
  have C1 := dHide fun W (hb : Below w.heap.size w W) => heldIntS_yes sv k0 m.sealed.length W (by omega) (by omega) (r1.below hb)
  have C2 := dHide fun W (hb : Below w.heap.size w W) => heldEntryS_ ev m.seen (k0 + m.sealed.length) W (by omega) (by omega) (RdEntryS.below r2 hb)
  have C3 := dHide fun W (hb : Below w.heap.size w W) => heldIntSS_ wv m.wrote (k0 + m.sealed.length + cntEntryS m.seen) W (by omega) (by omega) (RdK.below r3 hb)
  obtain ⟨-, sa, sc, rfl, -, -⟩ := r1
  obtain ⟨ea, ec, rfl, -⟩ := formEntryS r2
  obtain ⟨wa, wc, rfl, -⟩ := formK r3
  have EK : ((k0 + cntMend m : Nat) : Int) = ((k0 + m.sealed.length + cntEntryS m.seen + sumL m.wrote : Nat) : Int) := by unfold cntMend cntIntSS; omega
  rw [EK]
  have h1 : ¬ ((k0 + m.sealed.length : Nat) : Int) < 0 := by omega
  have h2 : ¬ ((k0 + m.sealed.length + cntEntryS m.seen : Nat) : Int) < 0 := by omega
  have h3 : ¬ ((k0 + m.sealed.length + cntEntryS m.seen + sumL m.wrote : Nat) : Int) < 0 := by omega
  generalize (mkMend k0 m).bye = f0 at *
  generalize (mkMend k0 m).epoch = f1 at *
  generalize (mkMend k0 m).planned = f4 at *
  generalize (mkMend k0 m).sealed.length = l2 at *
  generalize (mkMend k0 m).seen.length = l3 at *
  generalize (mkMend k0 m).wrote.length = l5 at *
  generalize ((k0 + m.sealed.length + cntEntryS m.seen + sumL m.wrote : Nat) : Int) = q3 at *
  generalize ((k0 + m.sealed.length + cntEntryS m.seen : Nat) : Int) = q2 at *
  generalize ((k0 + m.sealed.length : Nat) : Int) = q1 at *
  clear r2 r3 EK hk hl
  go_enter Tryz.func39, Tryz.ntmps39
  go_wp2_with fail
  have X0 := Bx.new w [.int .i64 f0, .int .i64 f1, .slice sa l2 sc, .slice ea l3 ec, .bool f4, .slice wa l5 wc] 30
  refine (dUnhide C1 _ (hb0 _)).mono ?_
  rintro r w1 ⟨rfl, b1⟩
  have B1 := belowThen (hb0 _) b1
  have X1 := X0.below b1
  have k3 := X1 3 _ rfl
  clear C1 b1 X0 hb0
  go_wp2_with fail
  refine (dUnhide C2 _ B1).mono ?_
  rintro r w2 ⟨rfl, b2⟩
  have B2 := belowThen B1 b2
  have k5 := X1.below b2 5 _ rfl
  clear C2 b2 k3 X1
  go_wp2_with fail
  refine (dUnhide C3 _ B2).mono ?_
  rintro r w3 ⟨rfl, b3⟩
  have B3 := belowThen B2 b3
  clear C3 b3 k5
  go_wp2
  go_ret
  exact ⟨rfl, B3⟩
end Go.Proofs.YtjbfpmackocgnaaGreat
