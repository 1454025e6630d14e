/- Several texts in one: OpenA, OpenK, OpenB, DomH, DomI, SitC, RgA, SitR, SitS, OpenR. -/
import Derived.Test.YtjkjmapibcfcdaaGreatGaA
import Derived.WalkKit
import Derived.ProofKit
import Derived.OpenShut
import Derived.ShutString
import Derived.Lib.SmallJoins
import Derived.Test.YtjkjmapibcfcdaaGreatGaC
import Derived.Test.YtjkjmapibcfcdaaGreatGaB
import Derived.Deep.RegionHeld3
import Derived.Deep.DeepCutAuto
import Derived.Deep.Strs
namespace Go.Proofs.YtjkjmapibcfcdaaGreat
open Go.ChangeMaps (open_string shut_string)
open Go.ChangeShapes Go.WideShapes Go.ChangeAt Go.RowKit
set_option linter.unusedSimpArgs false
set_option linter.unusedVariables false
set_option maxRecDepth 100000
variable {H : Type} {enc : TypeId × Value → H} {W : World} {r : Reach} {b0 base : Nat} {sp : Nat → Bool} {held : Bool} {v : Value} {d : DataW H} {p : List MemPlace}
variable {H : Type} {enc : TypeId × Value → H} {W : World} {r : Reach} {b0 base : Nat} {sp : Nat → Bool} {held : Bool} {v : Value} {d : DataW H} {p : List MemPlace}
variable {H : Type} {enc : TypeId × Value → H} {W : World} {r : Reach} {b0 base : Nat} {sp : Nat → Bool} {held : Bool} {v : Value} {d : DataW H} {p : List MemPlace}
def allInt (xs : List Int) : Prop := ∀ x ∈ xs, -9223372036854775808 ≤ x ∧ x ≤ 9223372036854775807
def TwoZ (w : World) (B b : Nat) (c0 c1 : Value) : Prop := B ≤ b ∧ Two w b c0 c1 ∧ w.frozen? ⟨b, 0, none⟩ = false ∧ w.frozen? ⟨b, 1, none⟩ = false
theorem TwoZ.kept {w w' : World} {B b : Nat} {c0 c1 : Value} (h : TwoZ w B b c0 c1) (hb : Below w.heap.size w w') : TwoZ w' B b c0 c1 := by
 obtain ⟨h0, h1, f0, f1⟩ := h
 have lt := dCell_lt h1.1
 exact ⟨h0, h1.kept hb, (hb.frozen (p := ⟨b, 0, none⟩) lt).trans f0, (hb.frozen (p := ⟨b, 1, none⟩) lt).trans f1⟩
theorem TwoZ.drawn {w w' : World} {bk B b : Nat} {c0 c1 : Value} (h : TwoZ w B b c0 c1) (hd : Drawn bk w w') (hb : b ≠ bk) : TwoZ w' B b c0 c1 := by
 obtain ⟨h0, ⟨k0, k1⟩, f0, f1⟩ := h
 have lt := dCell_lt k0
 exact ⟨h0, ⟨hd.cell k0 hb, hd.cell k1 hb⟩, (hd.frozen hb lt).trans f0, (hd.frozen hb lt).trans f1⟩
theorem TwoZ.fresh (w : World) (c0 c1 : Value) (T : TypeId) : TwoZ (w.alloc (.cells #[c0, c1] T)) w.heap.size w.heap.size c0 c1 := ⟨Nat.le_refl _, Two.new w _ _ _, by simp, by simp⟩
theorem TwoZ.put0 {w : World} {B b : Nat} {c0 c1 : Value} (h : TwoZ w B b c0 c1) (v : Value) : TwoZ (w.setCell ⟨b, 0, none⟩ v) B b v c1 := by
 obtain ⟨h0, ⟨k0, k1⟩, f0, f1⟩ := h
 exact ⟨h0, ⟨World.cell?_setCell_same _ _ _ k0, sO k1 (by omega)⟩, (World.frozen?_setCell _ _ _ _).trans f0, (World.frozen?_setCell _ _ _ _).trans f1⟩
theorem TwoZ.put1 {w : World} {B b : Nat} {c0 c1 : Value} (h : TwoZ w B b c0 c1) (v : Value) : TwoZ (w.setCell ⟨b, 1, none⟩ v) B b c0 v := by
 obtain ⟨h0, ⟨k0, k1⟩, f0, f1⟩ := h
 exact ⟨h0, ⟨sO k0 (by omega), World.cell?_setCell_same _ _ _ k1⟩, (World.frozen?_setCell _ _ _ _).trans f0, (World.frozen?_setCell _ _ _ _).trans f1⟩
theorem TwoZ.far {w : World} {B b b' o : Nat} {c0 c1 : Value} (h : TwoZ w B b c0 c1) (hb : b ≠ b') (v : Value) : TwoZ (w.setCell ⟨b', o, none⟩ v) B b c0 c1 := by
 obtain ⟨h0, ⟨k0, k1⟩, f0, f1⟩ := h
 exact ⟨h0, ⟨sO k0 (by omega), sO k1 (by omega)⟩, (World.frozen?_setCell _ _ _ _).trans f0, (World.frozen?_setCell _ _ _ _).trans f1⟩
def RdIntS (v : Value) (m : List Int) (W : World) : Prop := Ns W v m
def OwIntS (lo hi : Nat) (v : Value) (m : List Int) (W : World) : Prop := OwN lo hi v m W
theorem OwIntS.rd {lo hi : Nat} {v : Value} {m : List Int} {W : World} (h : OwIntS lo hi v m W) : RdIntS v m W := OwN.rd h
theorem RdIntS.below {v : Value} {m : List Int} {W W' : World} (h : RdIntS v m W) (b : Below W.heap.size W W') : RdIntS v m W' := Ns.below h b
def RdConfig (v : Value) (m : List Int × Int) (W : World) : Prop := ∃ sv, v = .agg #[sv, .int .i64 m.2] ∧ Ns W sv m.1
def OwConfig (lo hi : Nat) (v : Value) (m : List Int × Int) (W : World) : Prop := ∃ sv, v = .agg #[sv, .int .i64 m.2] ∧ OwN lo hi sv m.1 W
def sizConfig (m : List Int × Int) : Nat := m.1.length
theorem OwConfig.rd {lo hi : Nat} {v : Value} {m : List Int × Int} {W : World} (h : OwConfig lo hi v m W) : RdConfig v m W := by
 obtain ⟨sv, h1, h2⟩ := h; exact ⟨sv, h1, h2.rd⟩
theorem RdConfig.below {v : Value} {m : List Int × Int} {W W' : World} (h : RdConfig v m W) (b : Below W.heap.size W W') : RdConfig v m W' := by
 obtain ⟨sv, h1, h2⟩ := h; exact ⟨sv, h1, h2.below b⟩
def okConfig (m : List Int × Int) : Prop := allInt m.1 ∧ -9223372036854775808 ≤ m.2 ∧ m.2 ≤ 9223372036854775807
structure Er where
 nodes : List Int
 closed : Bool
 last : Int
structure Rg where
 eras : List Er
 trim : Int
def erCl (p : Nst Er) : List Value := [Sv Er.nodes p, .bool p.m.closed, .int .i64 p.m.last]
theorem erCl_len (p : Nst Er) : (erCl p).length = 3 := rfl
theorem elemR : Elem (α := Nst Er) 98 40 (.agg #[.slice none 0 0, .bool false, .int .i64 0]) 3 40 erCl where
 under := Tryz.underlying40
 info := by kernel_rfl
 zcells := by kernel_rfl
 pos := by decide
 len := erCl_len
 one := fun a u hu => by
  simp only [erCl, List.mem_cons, List.not_mem_nil, or_false] at hu
  rcases hu with rfl | rfl | rfl <;> rfl
def ErAt (w : World) (b o : Nat) (p : Nst Er) : Prop := w.cell? ⟨b, o, none⟩ = some (.slice p.a p.m.nodes.length p.c) ∧ w.cell? ⟨b, o + 1, none⟩ = some (.bool p.m.closed) ∧ w.cell? ⟨b, o + 2, none⟩ = some (.int .i64 p.m.last)
theorem ErAt.below {w w' : World} {b o : Nat} {p : Nst Er} (h : ErAt w b o p) (hb : Below w.heap.size w w') : ErAt w' b o p :=
 ⟨(hb.cell (p := ⟨b, o, none⟩) (dCell_lt h.1)).trans h.1, (hb.cell (p := ⟨b, o + 1, none⟩) (dCell_lt h.2.1)).trans h.2.1, (hb.cell (p := ⟨b, o + 2, none⟩) (dCell_lt h.2.2)).trans h.2.2⟩
theorem Rw.era {w : World} {a : Option Addr} {n cap : Nat} {rs : List (Nst Er)} (h : Rw 3 erCl w (.slice a n cap) rs) {k : Nat} (hk : k < rs.length) : ∃ b off, a = some ⟨b, off, none⟩ ∧ ∀ i (hi : i < rs.length), ErAt w b (off + i * 3) rs[i] := by
 obtain ⟨b, off, e, hc⟩ := h.el hk
 exact ⟨b, off, e, fun i hi => ⟨hc i hi 0 _ rfl, hc i hi 1 _ rfl, hc i hi 2 _ rfl⟩⟩
theorem rwR_one (w : World) (p : Nst Er) (T : TypeId) (c : Nat) (hc : 1 ≤ c ∧ c ≤ 9223372036854775807) : Rw 3 erCl (w.alloc (.cells #[.slice p.a p.m.nodes.length p.c, .bool p.m.closed, .int .i64 p.m.last] T)) (.slice (some ⟨w.heap.size, 0, none⟩) 1 c) [p] := by
 refine ⟨by simp, _, _, rfl, by simpa using hc, .inr ⟨w.heap.size, 0, rfl, fun i hi j u hu => ?_⟩⟩
 obtain rfl : i = 0 := by simp at hi; omega
 simp only [List.getElem_cons_zero, erCl, Sv] at hu
 simpa using hu
def sumN (ms : List Er) : Nat := (ms.map fun e => e.nodes.length).sum
theorem sumN_take (ms : List Er) (k : Nat) (h : k < ms.length) : sumN (ms.take (k + 1)) = sumN (ms.take k) + ms[k].nodes.length := by
 unfold sumN
 rw [List.take_succ_eq_append_getElem h, List.map_append, List.sum_append, List.map_cons, List.map_nil, List.sum_cons, List.sum_nil, Nat.add_zero]
theorem sumN_le (ms : List Er) (k : Nat) : sumN (ms.take k) ≤ sumN ms := by
 unfold sumN
 conv => rhs; rw [← List.take_append_drop k ms, List.map_append, List.sum_append]
 exact Nat.le_add_right _ _
theorem sumN_mem {ms : List Er} {k : Nat} (h : k < ms.length) : ms[k].nodes.length ≤ sumN ms := by
 have h1 := sumN_take ms k h
 have h2 := sumN_le ms (k + 1)
 omega
def RdEraS (v : Value) (ms : List Er) (W : World) : Prop := RdK 3 Er.nodes erCl v ms W
def OwEraS (lo hi : Nat) (v : Value) (ms : List Er) (W : World) : Prop := OwK 3 Er.nodes erCl lo hi v ms W
def RdRegister (v : Value) (m : Rg) (W : World) : Prop := ∃ sv, v = .agg #[sv, .int .i64 m.trim] ∧ RdEraS sv m.eras W
def OwRegister (lo hi : Nat) (v : Value) (m : Rg) (W : World) : Prop := ∃ sv, v = .agg #[sv, .int .i64 m.trim] ∧ OwEraS lo hi sv m.eras W
def sizEraS (m : List Er) : Nat := m.length + sumN m
def sizRegister (m : Rg) : Nat := sizEraS m.eras
def cntEraS (m : List Er) : Nat := sumN m + 2 * m.length
def mkEr (k : Nat) (e : Er) : Er := ⟨marksN k e.nodes.length, ((k + e.nodes.length) % 3 == 0), ((k + e.nodes.length + 1 : Nat) : Int)⟩
theorem OwRegister.rd {lo hi : Nat} {v : Value} {m : Rg} {W : World} (h : OwRegister lo hi v m W) : RdRegister v m W := by
 obtain ⟨sv, h1, h2⟩ := h
 exact ⟨sv, h1, OwK.rd h2⟩
theorem RdRegister.below {v : Value} {m : Rg} {W W' : World} (h : RdRegister v m W) (b : Below W.heap.size W W') : RdRegister v m W' := by
 obtain ⟨sv, h1, h2⟩ := h
 exact ⟨sv, h1, RdK.below h2 b⟩
theorem formRegister {v : Value} {m : Rg} {W : World} (h : RdRegister v m W) : ∃ a cap, v = .agg #[.slice a m.eras.length cap, .int .i64 m.trim] ∧ m.eras.length ≤ 9223372036854775807 := by
 obtain ⟨sv, rfl, h⟩ := h
 obtain ⟨a, cap, rfl, h0⟩ := formK h
 exact ⟨a, cap, rfl, h0⟩
theorem OwRegister.sits {lo hi : Nat} {w : World} {v : Value} {m : Rg} (h : OwRegister lo hi v m w) (hf : hi ≤ w.heap.size) : Sits (OwRegister lo hi v m) lo hi w := by
 obtain ⟨sv, h1, h2⟩ := h
 have s2 := OwK.sits h2 hf
 exact ⟨hf, fun W hW => ⟨sv, h1, s2.all W hW⟩⟩
def zeroEr : Nst Er := ⟨none, 0, [], false, 0⟩
def CopK (wr : World) (b : Nat) (rs : List (Nst Er)) (k : Nat) (f : Nat → Nst Er) : Prop :=
 RowG 3 erCl wr b 0 rs.length f ∧ (∀ i (h : i < rs.length), i < k → (f i).m = rs[i].m ∧ OwnN wr (b + 1) (Sv Er.nodes (f i)) (f i).m.nodes) ∧ ∀ i j, i < k → j < k → i < j → (f i).m.nodes = [] ∨ (f j).m.nodes = [] ∨ bO (Sv Er.nodes (f i)) ≠ bO (Sv Er.nodes (f j))
theorem CopK.step {wr w2 : World} {b k : Nat} {rs : List (Nst Er)} {f : Nat → Nst Er} (h : CopK wr b rs k f) (hk : k < rs.length) (hb2 : Below wr.heap.size wr w2) (hbw : b < wr.heap.size) {qa : Option Addr} {qc : Nat} (ho : OwnN w2 wr.heap.size (.slice qa rs[k].m.nodes.length qc) rs[k].m.nodes) :
  CopK (((w2.setCell ⟨b, k * 3, none⟩ (.slice qa rs[k].m.nodes.length qc)).setCell ⟨b, k * 3 + 1, none⟩ (.bool rs[k].m.closed)).setCell ⟨b, k * 3 + 2, none⟩ (.int .i64 rs[k].m.last)) b rs (k + 1) (putG f k ⟨qa, qc, rs[k].m⟩) := by
 obtain ⟨h1, h2, h3⟩ := h
 have far : ∀ {base : Nat} {v : Value} {xs : List Int}, OwnN w2 base v xs → b < base → OwnN (((w2.setCell ⟨b, k * 3, none⟩ (.slice qa rs[k].m.nodes.length qc)).setCell ⟨b, k * 3 + 1, none⟩ (.bool rs[k].m.closed)).setCell ⟨b, k * 3 + 2, none⟩ (.int .i64 rs[k].m.last)) base v xs := fun {base v xs} q hb => ((q.far hb _).far hb _).far hb _
 refine ⟨?_, fun i hi hik => ?_, fun i j hi hj hij => ?_⟩
 ·have r1 := (h1.below hb2).put erCl_len hk 0 (by decide) (.slice qa rs[k].m.nodes.length qc) ⟨qa, qc, ⟨rs[k].m.nodes, (f k).m.closed, (f k).m.last⟩⟩ rfl
  have r2 := r1.put erCl_len hk 1 (by decide) (.bool rs[k].m.closed) ⟨qa, qc, ⟨rs[k].m.nodes, rs[k].m.closed, (f k).m.last⟩⟩ (by rw [putG_same]; rfl)
  have r3 := r2.put erCl_len hk 2 (by decide) (.int .i64 rs[k].m.last) ⟨qa, qc, rs[k].m⟩ (by rw [putG_same]; rfl)
  simpa [putG_twice] using r3
 ·by_cases e : i = k
  ·subst e
   rw [putG_same]
   exact ⟨rfl, far (ho.mono (by omega)) (by omega)⟩
  ·rw [putG_ne _ _ e]
   have q := h2 i hi (by omega)
   exact ⟨q.1, far (q.2.below hb2) (by omega)⟩
 ·by_cases e : j = k
  ·subst e
   rw [putG_same, putG_ne _ _ (by omega)]
   have q := h2 i (by omega) (by omega)
   rcases q.2.bs.lt with h | h
   ·exact .inl h
   ·rcases ho.ge with h' | h'
    ·exact .inr (.inl h')
    ·right; right
     have e1 : bO (Sv Er.nodes (⟨qa, qc, rs[j].m⟩ : Nst Er)) = bO (.slice qa rs[j].m.nodes.length qc) := rfl
     rw [e1]
     omega
  ·rw [putG_ne _ _ e, putG_ne _ _ (by omega)]
   exact h3 i j (by omega) (by omega) hij
variable {H : Type} {enc : TypeId × Value → H} {W : World} {r : Reach} {b0 base : Nat} {held : Bool} {v : Value} {d : DataW H} {p : List MemPlace}
def fitEr (e : Er) : Prop := allInt e.nodes ∧ -9223372036854775808 ≤ e.last ∧ e.last ≤ 9223372036854775807
def okRegister (m : Rg) : Prop := (∀ e ∈ m.eras, fitEr e) ∧ -9223372036854775808 ≤ m.trim ∧ m.trim ≤ 9223372036854775807
end Go.Proofs.YtjkjmapibcfcdaaGreat
