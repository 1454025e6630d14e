/- Several texts in one: DomH, DomI, OpenA, OpenB, SitC, MnA, MnP, EntO, OpenK, OpenE, OpenM, InQ, MnSa, CpP, ImFe, ImFg. -/
import Derived.Test.YtjkjmapibcfcdaaGreatGaC
import Derived.Test.YtjkjmapibcfcdaaGreatGaB
import Derived.Test.YtjkjmapibcfcdaaGreatGaA
import Derived.WalkKit
import Derived.ProofKit
import Derived.OpenShut
import Derived.ShutString
import Derived.Lib.SmallJoins
import Derived.Test.YtjkjmapibcfcdaaGreatGbF
import Derived.Test.YtjkjmapibcfcdaaGreatGbE
import Derived.Deep.RegionHeld3
import Derived.Deep.DeepCutAuto
import Derived.Laws.CopyOwn
import Derived.Test.YtjkjmapibcfcdaaGreatGbI
import Derived.Test.YtjkjmapibcfcdaaGreatGx2
namespace Go.Proofs.YtjkjmapibcfcdaaGreat
open Go.ChangeMaps (open_string shut_string)
open Go.ChangeShapes Go.WideShapes Go.ChangeAt Go.RowKit
set_option linter.unusedSimpArgs false
set_option linter.unusedVariables false
set_option maxRecDepth 100000
def TwoZ (w : World) (B b : Nat) (c0 c1 : Value) : Prop := B ≤ b ∧ Two w b c0 c1 ∧ w.frozen? ⟨b, 0, none⟩ = false ∧ w.frozen? ⟨b, 1, none⟩ = false
theorem TwoZ.kept {w w' : World} {B b : Nat} {c0 c1 : Value} (h : TwoZ w B b c0 c1) (hb : Below w.heap.size w w') : TwoZ w' B b c0 c1 := by
 obtain ⟨h0, h1, f0, f1⟩ := h
 have lt := dCell_lt h1.1
 exact ⟨h0, h1.kept hb, (hb.frozen (p := ⟨b, 0, none⟩) lt).trans f0, (hb.frozen (p := ⟨b, 1, none⟩) lt).trans f1⟩
theorem TwoZ.drawn {w w' : World} {bk B b : Nat} {c0 c1 : Value} (h : TwoZ w B b c0 c1) (hd : Drawn bk w w') (hb : b ≠ bk) : TwoZ w' B b c0 c1 := by
 obtain ⟨h0, ⟨k0, k1⟩, f0, f1⟩ := h
 have lt := dCell_lt k0
 exact ⟨h0, ⟨hd.cell k0 hb, hd.cell k1 hb⟩, (hd.frozen hb lt).trans f0, (hd.frozen hb lt).trans f1⟩
theorem TwoZ.fresh (w : World) (c0 c1 : Value) (T : TypeId) : TwoZ (w.alloc (.cells #[c0, c1] T)) w.heap.size w.heap.size c0 c1 := ⟨Nat.le_refl _, Two.new w _ _ _, by simp, by simp⟩
theorem TwoZ.put0 {w : World} {B b : Nat} {c0 c1 : Value} (h : TwoZ w B b c0 c1) (v : Value) : TwoZ (w.setCell ⟨b, 0, none⟩ v) B b v c1 := by
 obtain ⟨h0, ⟨k0, k1⟩, f0, f1⟩ := h
 exact ⟨h0, ⟨World.cell?_setCell_same _ _ _ k0, sO k1 (by omega)⟩, (World.frozen?_setCell _ _ _ _).trans f0, (World.frozen?_setCell _ _ _ _).trans f1⟩
theorem TwoZ.put1 {w : World} {B b : Nat} {c0 c1 : Value} (h : TwoZ w B b c0 c1) (v : Value) : TwoZ (w.setCell ⟨b, 1, none⟩ v) B b c0 v := by
 obtain ⟨h0, ⟨k0, k1⟩, f0, f1⟩ := h
 exact ⟨h0, ⟨sO k0 (by omega), World.cell?_setCell_same _ _ _ k1⟩, (World.frozen?_setCell _ _ _ _).trans f0, (World.frozen?_setCell _ _ _ _).trans f1⟩
theorem TwoZ.far {w : World} {B b b' o : Nat} {c0 c1 : Value} (h : TwoZ w B b c0 c1) (hb : b ≠ b') (v : Value) : TwoZ (w.setCell ⟨b', o, none⟩ v) B b c0 c1 := by
 obtain ⟨h0, ⟨k0, k1⟩, f0, f1⟩ := h
 exact ⟨h0, ⟨sO k0 (by omega), sO k1 (by omega)⟩, (World.frozen?_setCell _ _ _ _).trans f0, (World.frozen?_setCell _ _ _ _).trans f1⟩
variable {H : Type} {enc : TypeId × Value → H} {W : World} {r : Reach} {b0 base : Nat} {sp : Nat → Bool} {held : Bool} {v : Value} {d : DataW H} {p : List MemPlace}
variable {H : Type} {enc : TypeId × Value → H} {W : World} {r : Reach} {b0 base : Nat} {sp : Nat → Bool} {held : Bool} {v : Value} {d : DataW H} {p : List MemPlace}
def allInt (xs : List Int) : Prop := ∀ x ∈ xs, -9223372036854775808 ≤ x ∧ x ≤ 9223372036854775807
def RdIntS (v : Value) (m : List Int) (W : World) : Prop := Ns W v m
def OwIntS (lo hi : Nat) (v : Value) (m : List Int) (W : World) : Prop := OwN lo hi v m W
theorem OwIntS.rd {lo hi : Nat} {v : Value} {m : List Int} {W : World} (h : OwIntS lo hi v m W) : RdIntS v m W := OwN.rd h
theorem RdIntS.below {v : Value} {m : List Int} {W W' : World} (h : RdIntS v m W) (b : Below W.heap.size W W') : RdIntS v m W' := Ns.below h b
def RdConfig (v : Value) (m : List Int × Int) (W : World) : Prop := ∃ sv, v = .agg #[sv, .int .i64 m.2] ∧ Ns W sv m.1
def OwConfig (lo hi : Nat) (v : Value) (m : List Int × Int) (W : World) : Prop := ∃ sv, v = .agg #[sv, .int .i64 m.2] ∧ OwN lo hi sv m.1 W
def sizConfig (m : List Int × Int) : Nat := m.1.length
theorem OwConfig.rd {lo hi : Nat} {v : Value} {m : List Int × Int} {W : World} (h : OwConfig lo hi v m W) : RdConfig v m W := by
 obtain ⟨sv, h1, h2⟩ := h; exact ⟨sv, h1, h2.rd⟩
theorem RdConfig.below {v : Value} {m : List Int × Int} {W W' : World} (h : RdConfig v m W) (b : Below W.heap.size W W') : RdConfig v m W' := by
 obtain ⟨sv, h1, h2⟩ := h; exact ⟨sv, h1, h2.below b⟩
theorem formConfig {v : Value} {m : List Int × Int} {W : World} (h : RdConfig v m W) : ∃ a cap, v = .agg #[.slice a m.1.length cap, .int .i64 m.2] ∧ m.1.length ≤ 9223372036854775807 := by
 obtain ⟨sv, rfl, h0, a, cap, rfl, -, -⟩ := h
 exact ⟨a, cap, rfl, h0⟩
def okConfig (m : List Int × Int) : Prop := allInt m.1 ∧ -9223372036854775808 ≤ m.2 ∧ m.2 ≤ 9223372036854775807
structure Mn where
 bye : Int
 epoch : Int
 sealed : List Int
 seen : List Ent
 planned : Bool
 wrote : List (List Int)
def idL (x : List Int) : List Int := x
def lsCl (p : Nst (List Int)) : List Value := [.slice p.a p.m.length p.c]
theorem sv_id (p : Nst (List Int)) : Sv idL p = .slice p.a p.m.length p.c := rfl
theorem lsCl_len (p : Nst (List Int)) : (lsCl p).length = 1 := rfl
theorem elemL : Elem (α := Nst (List Int)) 24 28 (.slice none 0 0) 1 24 lsCl where
 under := Tryz.underlying28
 info := by kernel_rfl
 zcells := by kernel_rfl
 pos := by decide
 len := lsCl_len
 one := fun a u hu => by
  simp only [lsCl, List.mem_cons, List.not_mem_nil, or_false] at hu
  rcases hu with rfl
  rfl
theorem Rw.ls {w : World} {a : Option Addr} {n cap : Nat} {rs : List (Nst (List Int))} (h : Rw 1 lsCl w (.slice a n cap) rs) {k : Nat} (hk : k < rs.length) : ∃ b off, a = some ⟨b, off, none⟩ ∧ ∀ i (hi : i < rs.length), w.cell? ⟨b, off + i, none⟩ = some (.slice rs[i].a rs[i].m.length rs[i].c) := by
 obtain ⟨b, off, e, hc⟩ := h.el hk
 exact ⟨b, off, e, fun i hi => by simpa using hc i hi 0 _ rfl⟩
def sumL (ms : List (List Int)) : Nat := (ms.map List.length).sum
theorem sumL_take (ms : List (List Int)) (k : Nat) (h : k < ms.length) : sumL (ms.take (k + 1)) = sumL (ms.take k) + ms[k].length := by
 unfold sumL
 rw [List.take_succ_eq_append_getElem h, List.map_append, List.sum_append, List.map_cons, List.map_nil, List.sum_cons, List.sum_nil, Nat.add_zero]
theorem sumL_le (ms : List (List Int)) (k : Nat) : sumL (ms.take k) ≤ sumL ms := by
 unfold sumL
 conv => rhs; rw [← List.take_append_drop k ms, List.map_append, List.sum_append]
 exact Nat.le_add_right _ _
theorem sumL_mem {ms : List (List Int)} {k : Nat} (h : k < ms.length) : ms[k].length ≤ sumL ms := by
 have h1 := sumL_take ms k h
 have h2 := sumL_le ms (k + 1)
 omega
def RdIntSS (v : Value) (ms : List (List Int)) (W : World) : Prop := RdK 1 idL lsCl v ms W
def OwL (lo hi : Nat) (v : Value) (rs : List (Nst (List Int))) (W : World) : Prop :=
 OwnRw 1 lsCl W lo v rs ∧ (rs = [] ∨ bO v < hi) ∧ (∀ p ∈ rs, OwN lo hi (Sv idL p) p.m W) ∧ Apart idL v rs
def Off (b : Nat) (v : Value) (rs : List (Nst (List Int))) : Prop := (rs = [] ∨ bO v ≠ b) ∧ ∀ p ∈ rs, p.m = [] ∨ bO (Sv idL p) ≠ b
theorem OwL.owk {lo hi : Nat} {v : Value} {rs : List (Nst (List Int))} {W : World} (h : OwL lo hi v rs W) : OwK 1 idL lsCl lo hi v (rs.map Nst.m) W := ⟨rs, rfl, h.1, h.2.1, h.2.2.1, h.2.2.2⟩
theorem OwL.rd {lo hi : Nat} {v : Value} {rs : List (Nst (List Int))} {W : World} (h : OwL lo hi v rs W) : RdIntSS v (rs.map Nst.m) W := OwK.rd h.owk
theorem OwL.sits {lo hi : Nat} {v : Value} {rs : List (Nst (List Int))} {W : World} (h : OwL lo hi v rs W) (hf : hi ≤ W.heap.size) : Sits (OwL lo hi v rs) lo hi W := by
 obtain ⟨h2, h3, h4, h5⟩ := h
 refine ⟨hf, fun w' hW => ⟨h2.sitsR h3 hW, h3, fun p hp => ((h4 p hp).sits hf).all w' hW, h5⟩⟩
theorem OwL.wide {lo hi lo' hi' : Nat} {v : Value} {rs : List (Nst (List Int))} {W : World} (h : OwL lo hi v rs W) (h1 : lo' ≤ lo) (h2 : hi ≤ hi') : OwL lo' hi' v rs W := by
 obtain ⟨e2, e3, e4, e5⟩ := h
 refine ⟨e2.mono h1, ?_, fun p hp => (e4 p hp).wide h1 h2, e5⟩
 rcases e3 with h | h
 ·exact .inl h
 ·exact .inr (by omega)
theorem OwL.far {lo hi b o : Nat} {v : Value} {rs : List (Nst (List Int))} {w : World} (h : OwL lo hi v rs w) (hb : b < lo) (u : Value) : OwL lo hi v rs (w.setCell ⟨b, o, none⟩ u) := by
 obtain ⟨e2, e3, e4, e5⟩ := h
 have hW : ∀ k, lo ≤ k → k < hi → (w.setCell ⟨b, o, none⟩ u).heap[k]? = w.heap[k]? := fun k h1 h2 => Below.heap_setCell _ _ _ k (by simp only; omega)
 exact ⟨e2.sitsR e3 hW, e3, fun p hp => (e4 p hp).putW (by
  rcases (e4 p hp).1.ge with h | h
  ·exact .inl h
  ·exact .inr (by omega)) u, e5⟩
theorem OwL.keep {lo hi : Nat} {v : Value} {rs : List (Nst (List Int))} {w w' : World} (h : OwL lo hi v rs w) (hb : ∀ k, k < w.heap.size → (¬ Off k v rs) → w'.heap[k]? = w.heap[k]?) : OwL lo hi v rs w' := by
 obtain ⟨e2, e3, e4, e5⟩ := h
 refine ⟨?_, e3, fun p hp => ?_, e5⟩
 ·have hlt := e2.ltG lsCl_len (by decide)
  obtain ⟨h0, a, cap, rfl, hcap, h⟩ := e2
  refine ⟨h0, a, cap, rfl, hcap, ?_⟩
  rcases h with h | ⟨b, off, rfl, hb', hc⟩
  ·exact .inl h
  ·rcases hlt with h | hlt
   ·exact .inl h
   ·by_cases hr : rs = []
    ·exact .inl hr
    ·have e := hb b hlt (fun q => (q.1.resolve_left hr) rfl)
     exact .inr ⟨b, off, rfl, hb', fun i hi j u hu => ⟨(World.cell?_of_block (a := ⟨b, off + i * 1 + j, none⟩) e).trans (hc i hi j u hu).1, (World.frozen?_of_block (a := ⟨b, off + i * 1 + j, none⟩) e).trans (hc i hi j u hu).2⟩⟩
 ·obtain ⟨o, hl⟩ := e4 p hp
  refine ⟨?_, hl⟩
  by_cases hm : p.m = []
  ·obtain ⟨h0, a, cap, e, hcap, h⟩ := o
   exact ⟨h0, a, cap, e, hcap, .inl hm⟩
  ·have hlt := o.bs.lt.resolve_left hm
   have e := hb _ hlt (fun q => ((q.2 p hp).resolve_left hm) rfl)
   have n1 : OwN (bO (Sv idL p)) (bO (Sv idL p) + 1) (Sv idL p) p.m w := (OwN.narrow (lo := lo) (hi := w.heap.size) ⟨o, .inr hlt⟩ hm).1
   have n2 := (n1.sits hlt).all w' (fun k h1 h2 => by
    have : k = bO (Sv idL p) := by omega
    subst this
    exact e)
   exact n2.1.mono (o.ge.resolve_left hm)
def RdMend (v : Value) (m : Mn) (W : World) : Prop := ∃ sv ev wv, v = .agg #[.int .i64 m.bye, .int .i64 m.epoch, sv, ev, .bool m.planned, wv] ∧ Ns W sv m.sealed ∧ RdEntryS ev m.seen W ∧ RdIntSS wv m.wrote W
def OwMend (lo hi : Nat) (v : Value) (m : Mn) (W : World) : Prop := ∃ sv ev wv rs, v = .agg #[.int .i64 m.bye, .int .i64 m.epoch, sv, ev, .bool m.planned, wv] ∧ rs.map Nst.m = m.wrote ∧ OwN lo hi sv m.sealed W ∧ OwEntryS lo hi ev m.seen W ∧ OwL lo hi wv rs W ∧ (m.sealed = [] ∨ m.seen = [] ∨ bO sv ≠ bO ev) ∧ (m.sealed = [] ∨ Off (bO sv) wv rs) ∧ (m.seen = [] ∨ Off (bO ev) wv rs)
def sizIntSS (m : List (List Int)) : Nat := m.length + sumL m
def sizMend (m : Mn) : Nat := m.sealed.length + (sizEntryS m.seen + sizIntSS m.wrote)
theorem sumL_cons (e : List Int) (l : List (List Int)) : sumL (e :: l) = e.length + sumL l := by
 simp only [sumL, List.map_cons, List.sum_cons]
theorem OwMend.rd {lo hi : Nat} {v : Value} {m : Mn} {W : World} (h : OwMend lo hi v m W) : RdMend v m W := by
 obtain ⟨sv, ev, wv, rs, h1, h2, h3, h4, h5, -⟩ := h
 exact ⟨sv, ev, wv, h1, h3.rd, h4.rd, by rw [← h2]; exact h5.rd⟩
theorem RdMend.below {v : Value} {m : Mn} {W W' : World} (h : RdMend v m W) (b : Below W.heap.size W W') : RdMend v m W' := by
 obtain ⟨sv, ev, wv, h1, h2, h3, h4⟩ := h
 exact ⟨sv, ev, wv, h1, h2.below b, h3.below b, RdK.below h4 b⟩
theorem formMend {v : Value} {m : Mn} {W : World} (h : RdMend v m W) : ∃ sa sc ea ec wa wc, v = .agg #[.int .i64 m.bye, .int .i64 m.epoch, .slice sa m.sealed.length sc, .slice ea m.seen.length ec, .bool m.planned, .slice wa m.wrote.length wc] ∧ m.sealed.length ≤ 9223372036854775807 ∧ m.seen.length ≤ 9223372036854775807 ∧ m.wrote.length ≤ 9223372036854775807 := by
 obtain ⟨sv, ev, wv, rfl, h2, h3, h4⟩ := h
 obtain ⟨h0, a, cap, rfl, -, -⟩ := h2
 obtain ⟨ea, ec, rfl, h1⟩ := formEntryS h3
 obtain ⟨wa, wc, rfl, h5⟩ := formK h4
 exact ⟨a, cap, ea, ec, wa, wc, rfl, h0, h1, h5⟩
theorem OwMend.sits {lo hi : Nat} {w : World} {v : Value} {m : Mn} (h : OwMend lo hi v m w) (hf : hi ≤ w.heap.size) : Sits (OwMend lo hi v m) lo hi w := by
 obtain ⟨sv, ev, wv, rs, h1, h2, h3, h4, h5, h6⟩ := h
 have s3 := h3.sits hf
 have s4 := h4.sits hf
 have s5 := h5.sits hf
 exact ⟨hf, fun W hW => ⟨sv, ev, wv, rs, h1, h2, s3.all W hW, s4.all W hW, s5.all W hW, h6⟩⟩
theorem sv_mk (p : Nst (List Int)) (k : Nat) : Sv idL (⟨p.a, p.c, marksN k p.m.length⟩ : Nst (List Int)) = Sv idL p := by
 rw [sv_id, sv_id]
 simp only [marksN_len]
def lastO : List Ent → Int
 | [] => 0
 | [e] => e.pl % 4294967296
 | _ :: e :: l => lastO (e :: l)
theorem lastO_at : ∀ (es : List Ent) (h : 0 < es.length), lastO es = (es[es.length - 1]'(by omega)).pl % 4294967296
 | [], h => by simp at h
 | [e], _ => rfl
 | _ :: e :: l, _ => by
  rw [lastO, lastO_at (e :: l) (by simp)]
  simp
def seenP (m : Mn) (e : Ent) : Prop := entP e ∧ e.pl / 4294967296 = m.epoch ∧ e.wave < m.bye
def mnH (ds : List Int) (cop : Int) (m : Mn) : Prop := cfgP ds cop ∧ (1 ≤ m.epoch ∧ m.epoch ≤ 30) ∧ (m.epoch + 1 ≤ m.bye ∧ m.bye ≤ 30) ∧ nodesP ds cop m.sealed ∧ ascE m.seen
def wroteP (m : Mn) : Prop := (m.wrote.length : Int) = if m.planned then lastO m.seen else 0
def mnP (ds : List Int) (cop : Int) (m : Mn) : Prop := mnH ds cop m ∧ (∀ i (h : i < m.seen.length), seenP m m.seen[i]) ∧ (∀ i (h : i < m.wrote.length), nodesP ds cop m.wrote[i]) ∧ wroteP m
theorem mnP.seen {ds : List Int} {cop : Int} {m : Mn} (h : mnP ds cop m) : ∀ e ∈ m.seen, seenP m e := fun e he => by
 obtain ⟨i, hi, rfl⟩ := List.getElem_of_mem he
 exact h.2.1 i hi
theorem mnP.wrote {ds : List Int} {cop : Int} {m : Mn} (h : mnP ds cop m) : ∀ l ∈ m.wrote, nodesP ds cop l := fun e he => by
 obtain ⟨i, hi, rfl⟩ := List.getElem_of_mem he
 exact h.2.2.1 i hi
theorem lastO_le {ds : List Int} {cop : Int} {m : Mn} (h : mnP ds cop m) : 0 ≤ lastO m.seen ∧ lastO m.seen ≤ 60 := by
 rcases Nat.eq_zero_or_pos m.seen.length with h0 | h0
 ·have e : m.seen = [] := List.length_eq_zero_iff.1 h0
  rw [e]
  simp [lastO]
 ·rw [lastO_at _ h0]
  have q := (h.2.1 (m.seen.length - 1) (by omega)).1.1
  unfold isPl at q
  omega
theorem mnP.wroteLe {ds : List Int} {cop : Int} {m : Mn} (h : mnP ds cop m) : m.wrote.length ≤ 60 := by
 have h1 := h.2.2.2
 have h2 := lastO_le h
 unfold wroteP at h1
 split at h1 <;> omega
theorem ascE_le {es : List Ent} (h : ascE es) : ∀ (i j : Nat) (hj : j < es.length) (hij : i < j), (es[i]'(by omega)).pl < es[j].pl := by
 intro i j
 induction j with
 | zero => intro _ h; omega
 | succ j ih =>
  intro hj hij
  have q := h j hj
  rcases Nat.lt_or_ge i j with h' | h'
  ·have := ih (by omega) h'
   omega
  ·have : i = j := by omega
   subst this
   exact q
variable {H : Type} {enc : TypeId × Value → H} {W : World} {r : Reach} {b0 base : Nat} {sp : Nat → Bool} {held : Bool} {v : Value} {d : DataW H} {p : List MemPlace}
variable {H : Type} {enc : TypeId × Value → H} {W : World} {r : Reach} {b0 base : Nat} {sp : Nat → Bool} {held : Bool} {v : Value} {d : DataW H} {p : List MemPlace}
variable {H : Type} {enc : TypeId × Value → H} {W : World} {r : Reach} {b0 base : Nat} {sp : Nat → Bool} {held : Bool} {v : Value} {d : DataW H} {p : List MemPlace}
variable {H : Type} {enc : TypeId × Value → H} {W : World} {r : Reach} {b0 base : Nat} {held : Bool} {v : Value} {d : DataW H} {p : List MemPlace}
def okMend (m : Mn) : Prop := (-9223372036854775808 ≤ m.bye ∧ m.bye ≤ 9223372036854775807) ∧ (-9223372036854775808 ≤ m.epoch ∧ m.epoch ≤ 9223372036854775807) ∧ allInt m.sealed ∧ fitE m.seen ∧ ∀ l ∈ m.wrote, allInt l
theorem l1In_any (x a b : Int) (W : World) : Calls Tryz.prog 73 #[.int .i64 x, .int .i64 a, .int .i64 b] W fun e w' => RetB (a ≤ x ∧ x ≤ b) e ∧ w' = W := by
 by_cases h : a ≤ x ∧ x ≤ b
 ·exact (l1In_yes x a b h.1 h.2 W).mono fun e w' ⟨h1, h2⟩ => ⟨h1 ▸ RetB.yes h, by first | exact h2 | exact h2.symm⟩
 ·exact (l1In_no x a b (by omega) W).mono fun e w' ⟨h1, h2⟩ => ⟨h1 ▸ RetB.no h, by first | exact h2 | exact h2.symm⟩
section
variable {w : World} {dT sT elem t : TypeId} {sz : Nat} {dp sp : Option Addr} {dLen dCap sLen sCap g off : Nat} {cur cs : List Value}
theorem grown_row (w : World) (g : Nat) (l : Array Value) : w.grownBy (w.setRow g l) (some g) :=
 ⟨rfl, rfl, rfl, by simp [World.setRow], fun k hk hne => setRow_other w g k l (fun e => hne (by rw [e]))⟩
theorem run_copyK (ty : TypeId) (hu : Tryz.prog.underlying dT = some (.slice elem)) (hs : (Tryz.prog.info? elem).map (·.size) = some sz) (hp : 0 < sz)
  (hg : w.heap[g]? = some (.cells cur.toArray t (0, 0))) (hn : cs.length = Nat.min sLen dLen * sz)
  (hpos : 0 < cs.length → dp = some ⟨g, off, none⟩ ∧ ∃ ad, sp = some ad ∧ ∀ j v, cs[j]? = some v → w.cell? (ad.add j) = some v)
  (hfit : off + cs.length ≤ cur.length) (h1 : ∀ v ∈ cs, v.oneCell' = true) :
  ∃ w', (Builtin.copy_ #[dT, sT] ty #[.slice dp dLen dCap, .slice sp sLen sCap]).run Tryz.prog w = .ok (goInt (Nat.min sLen dLen)) w' ∧ w'.heap[g]? = some (.cells (splice cur off cs).toArray t (0, 0)) ∧ w.grownBy w' (some g) := by
 cases hq : Tryz.prog.info? elem with
 | none => simp [hq] at hs
 | some i =>
  have hi : i.size = sz := by simpa [hq] using hs
  by_cases h0 : cs.length = 0
  ·obtain rfl : cs = [] := List.eq_nil_of_length_eq_zero h0
   have hm : Nat.min sLen dLen = 0 := by
    rcases Nat.mul_eq_zero.1 hn.symm with h | h
    ·exact h
    ·omega
   have hl : ∀ (x : Addr), (loadCells x 0).run Tryz.prog w = .ok #[] w := fun x => by simpa using run_loadCells_list (P := Tryz.prog) w x [] (by simp)
   refine ⟨w, ?_, by simpa [splice] using hg, ⟨rfl, rfl, rfl, Nat.le_refl _, fun _ _ _ => rfl⟩⟩
   cases dp <;> cases sp <;> simp [Builtin.copy_, run_underlying hu, Builtin.lenOf, Builtin.firstCells, sizeOf, typeInfo, hq, hm, storeCells, hl]
  ·obtain ⟨rfl, ad, rfl, hsrc⟩ := hpos (by omega)
   have hl := run_loadCells_list (P := Tryz.prog) w ad cs hsrc
   have hst := run_storeCells_at Tryz.prog g off t cs 0 cur.toArray w hg (by simpa using hfit) h1
   refine ⟨_, ?_, setRow_heap w g _ (splice cur off cs).toArray t _ hg, grown_row w g _⟩
   simp [Builtin.copy_, run_underlying hu, Builtin.lenOf, Builtin.firstCells, sizeOf, typeInfo, hq, hi, ← hn, hl, hst, splice]
variable {ops : Array Oper} {rest : List Oper} {o : Oper} {a : Act} {Q : Exit → Act → World → Prop}
theorem wp_copyK (hgd : o.guard = none) (d s : Operand) (dT sT : TypeId) (ho : o.op = .call { callee := .builtin .copy, args := #[d, s], argTypes := #[dT, sT] })
  (elem : TypeId) (sz : Nat) (hu : Tryz.prog.underlying dT = some (.slice elem)) (hs : (Tryz.prog.info? elem).map (·.size) = some sz) (hp : 0 < sz)
  (dp sp : Option Addr) (dLen dCap sLen sCap : Nat) (hd : a.eval d = .slice dp dLen dCap) (hsv : a.eval s = .slice sp sLen sCap)
  (g off : Nat) (cur : List Value) (t : TypeId) (hg : w.heap[g]? = some (.cells cur.toArray t (0, 0))) (cs : List Value) (hn : cs.length = Nat.min sLen dLen * sz)
  (hpos : 0 < cs.length → dp = some ⟨g, off, none⟩ ∧ ∃ ad, sp = some ad ∧ ∀ j v, cs[j]? = some v → w.cell? (ad.add j) = some v)
  (hfit : off + cs.length ≤ cur.length) (h1 : ∀ v ∈ cs, v.oneCell' = true)
  (h : ∀ w', Hid (w'.heap[g]? = some (.cells (splice cur off cs).toArray t (0, 0))) → Hid (w.grownBy w' (some g)) → wpList Tryz.prog ops Q rest (a.put o.dst (goInt (Nat.min sLen dLen))) w') :
  wpList Tryz.prog ops Q (o :: rest) a w := by
 refine wpList_plain hgd fun K hK => ?_
 obtain ⟨w', hrun, h2, h3⟩ := run_copyK (dCap := dCap) (sCap := sCap) (sT := sT) o.type hu hs hp hg hn hpos hfit h1
 unfold Oper.wp
 simp [execOp, ho, resolve, invoke, builtin, hd, hsv, hrun, Result.andThen]
 exact hK _ _ (h w' h2 h3)
theorem step_copyK {K : Act → World → Prop} {F : Prop} (hgd : o.guard = none) (d s : Operand) (dT sT : TypeId) (ho : o.op = .call { callee := .builtin .copy, args := #[d, s], argTypes := #[dT, sT] })
  (elem : TypeId) (sz : Nat) (hu : Tryz.prog.underlying dT = some (.slice elem)) (hs : (Tryz.prog.info? elem).map (·.size) = some sz) (hp : 0 < sz)
  (dp sp : Option Addr) (dLen dCap sLen sCap : Nat) (hd : a.eval d = .slice dp dLen dCap) (hsv : a.eval s = .slice sp sLen sCap)
  (g off : Nat) (cur : List Value) (t : TypeId) (hg : w.heap[g]? = some (.cells cur.toArray t (0, 0))) (cs : List Value) (hn : cs.length = Nat.min sLen dLen * sz)
  (hpos : 0 < cs.length → dp = some ⟨g, off, none⟩ ∧ ∃ ad, sp = some ad ∧ ∀ j v, cs[j]? = some v → w.cell? (ad.add j) = some v)
  (hfit : off + cs.length ≤ cur.length) (h1 : ∀ v ∈ cs, v.oneCell' = true)
  (h : ∀ w', Hid (w'.heap[g]? = some (.cells (splice cur off cs).toArray t (0, 0))) → Hid (w.grownBy w' (some g)) → K (a.put o.dst (goInt (Nat.min sLen dLen))) w') :
  if Region.wanted o (yielded ops a.tmps) = true then Oper.wp Tryz.prog o a w K Q else F := by
 have hw : Region.wanted o (yielded ops a.tmps) = true := by simp [Region.wanted, hgd]
 rw [if_pos hw]
 obtain ⟨w', hrun, h2, h3⟩ := run_copyK (dCap := dCap) (sCap := sCap) (sT := sT) o.type hu hs hp hg hn hpos hfit h1
 have h4 := h w' h2 h3
 unfold Oper.wp
 simp [execOp, ho, resolve, invoke, builtin, hd, hsv, hrun, Result.andThen]
 exact h4
end
section
variable {α : Type} {T TS : TypeId} {z : Value} {sz bytes : Nat} {cl : α → List Value} {w w' : World} {base : Nat} {v : Value} {ms : List α}
theorem zeroCells_size (z : Array Value) (n : Nat) : (Builtin.zeroCells z n).size = n * z.size := by simp [Builtin.zeroCells]
variable {ops : Array Oper} {rest : List Oper} {o : Oper} {a : Act} {Q : Exit → Act → World → Prop}
end
theorem zerosE_len (n : Nat) : (zerosE n).toList.length = n * 4 := by rw [Array.length_toList]; exact size_madeCells _ _
set_option maxHeartbeats 4000000 in
theorem copyEntries_any (v : Value) (es : List Ent) (w : World) (hv : Rw 4 Ent.cl w v es) (hl : es.length ≤ 1048576) :
  Calls Tryz.prog 117 #[v] w fun r w' => (∃ u, r = .returned u ∧ ApE w' w.heap.size u es) ∧ Below w.heap.size w w' := by
 have hlen : (fcells Ent.cl es).length = es.length * 4 := fcells_len elemE.len es
 have hw := MapKept.heap_alloc w (.cells (zerosE es.length) 36)
 have HR : Hid ((w.alloc (.cells (zerosE es.length) 36)).heap[w.heap.size]? = some (.cells (zerosE es.length).toList.toArray 36 (0, 0))) := by
  show _ = _
  simpa using hw.1
 have hB : Below w.heap.size w (w.alloc (.cells (zerosE es.length) 36)) := (Below.refl _ _).alloc (Nat.le_refl _) _
 have hv1 := hv.below hB
 obtain ⟨-, a, c, rfl, hac, -⟩ := id hv1
 have HS : Hid (0 < (fcells Ent.cl es).length → ∃ ad, a = some ad ∧ ∀ j u, (fcells Ent.cl es)[j]? = some u → (w.alloc (.cells (zerosE es.length) 36)).cell? (ad.add j) = some u) := fun h0 => by
  obtain ⟨-, a', c', e, -, h⟩ := hv1
  cases e
  obtain ⟨b, off, rfl, hc⟩ := orR_of_lt h (k := 0) (by omega)
  exact ⟨_, rfl, rw_news elemE hc⟩
 have HZ := dH (zerosE_len es.length)
 have o1 := dH (fcells_one elemE es)
 have FIN : Hid (∀ w', w'.heap[w.heap.size]? = some (.cells (splice (zerosE es.length).toList 0 (fcells Ent.cl es)).toArray 36 (0, 0)) → (w.alloc (.cells (zerosE es.length) 36)).grownBy w' (some w.heap.size) → (∃ u, Ending.returned (.slice (some ⟨w.heap.size, 0, none⟩) es.length es.length) = .returned u ∧ ApE w' w.heap.size u es) ∧ Below w.heap.size w w') := fun w' h1 h2 => by
  have e : splice (zerosE es.length).toList 0 (fcells Ent.cl es) = fcells Ent.cl es := by
   unfold splice
   rw [List.drop_eq_nil_of_le (by rw [zerosE_len, hlen]; omega)]
   simp
  rw [e] at h1
  refine ⟨⟨_, rfl, .inr ⟨hlen, .inr ⟨w.heap.size, es.length, _, rfl, Nat.le_refl _, h1, Nat.le_refl _, by show es.length ≤ 9223372036854775807; omega, by simpa using hlen, ?_⟩⟩⟩, hB.grown h2 hB.size (fun k hk => by cases hk; exact Nat.le_refl _)⟩
  simp [← hlen]
 have mk := fun W => makeE es.length (by omega) W
 generalize (zerosE es.length).toList = ZL at *
 generalize hF : fcells Ent.cl es = FC at *
 generalize es.length = n at *
 clear hv hv1 hw hF
 go_enter Tryz.func117, Tryz.ntmps117
 go_wp2_with (refine wp_copyK rfl _ _ 27 27 rfl 36 4 elemE.under (by kernel_rfl) (by decide) _ _ _ _ _ _ rfl rfl w.heap.size 0 ZL 36 (dU HR) FC (by rw [show Nat.min n n = n from Nat.min_self n]; exact hlen) (fun h => ⟨rfl, dU HS h⟩) (by rw [dU HZ, hlen]; omega) (dU o1) ?_; intro W2 R2 G2; have F := dH (dU FIN W2 (dU R2) (dU G2)); clear R2 G2)
 go_ret
 exact dU F
end Go.Proofs.YtjkjmapibcfcdaaGreat
