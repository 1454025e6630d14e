/- Several texts in one: OpenA, OpenK, OpenB, DomH, DomI, SitC. -/
import Derived.Test.YthndkkjgjhgdnaaDoorGaA
import Derived.WalkKit
import Derived.ProofKit
import Derived.OpenShut
import Derived.ShutString
import Derived.Lib.SmallJoins
import Derived.Test.YthndkkjgjhgdnaaDoorGaC
import Derived.Test.YthndkkjgjhgdnaaDoorGaB
namespace Go.Proofs.YthndkkjgjhgdnaaDoor
open Go.ChangeShapes Go.WideShapes Go.ChangeAt Go.RowKit
set_option maxRecDepth 100000
open Go.ChangeMaps (open_string shut_string)
variable {H : Type} {enc : TypeId × Value → H} {W : World} {r : Reach} {b0 base : Nat} {sp : Nat → Bool} {held : Bool} {v : Value} {d : DataW H} {p : List MemPlace}

theorem open_Int (hv : Value.okWide Tryd.prog W r b0 3 v) (h : DataW.Trod enc Tryd.prog W base sp held 3 v d p) : ∃ n : Int, v = .int .i64 n ∧ -9223372036854775808 ≤ n ∧ n ≤ 9223372036854775807 := by
  obtain ⟨n, rfl, -, -, w⟩ := open_int Tryd.underlying3 hv h
  exact ⟨n, rfl, bounds_i64 w⟩
theorem open_Str (hv : Value.okWide Tryd.prog W r b0 9 v) (h : DataW.Trod enc Tryd.prog W base sp held 9 v d p) : ∃ s : ByteArray, v = .string s ∧ s.size ≤ 9223372036854775807 := by
  obtain ⟨s, rfl, -, -, hs⟩ := open_string Tryd.underlying9 hv h
  exact ⟨s, rfl, hs⟩
theorem open_Bool (hv : Value.okWide Tryd.prog W r b0 4 v) (h : DataW.Trod enc Tryd.prog W base sp held 4 v d p) : ∃ b : Bool, v = .bool b := by
  obtain ⟨b, rfl, -, -⟩ := open_bool Tryd.underlying4 hv h
  exact ⟨b, rfl⟩
theorem open_Bytes (hv : Value.okWide Tryd.prog W r b0 22 v) (h : DataW.Trod enc Tryd.prog W base (fun _ => true) held 22 v d p) : ∃ bs : List UInt8, Bs W v bs := by
  obtain ⟨a0, len0, cap0, rfl⟩ := okWide_slice Tryd.underlying22 hv
  obtain ⟨z0, w0⟩ : ∃ zs, IsRow .u8 W a0 len0 cap0 zs := by
    obtain ⟨fuel, hf⟩ := h
    rcases open_ints Tryd.underlying22 Tryd.underlying5 (by kernel_rfl) hf with ⟨hcs, _⟩ | ⟨x, l, c, zs, hcs, _, hl, hm, hz, _, hcell, hwz⟩
    · simp [Value.cells] at hcs
      obtain ⟨rfl, rfl, rfl⟩ := hcs
      exact ⟨[], .inl ⟨rfl, rfl, rfl, rfl⟩⟩
    · simp [Value.cells] at hcs
      obtain ⟨rfl, rfl, rfl⟩ := hcs
      exact ⟨zs, .inr ⟨_, rfl, hl, hm, by simpa using hz, hcell, hwz⟩⟩
  obtain ⟨bs, -, h⟩ := bs_of_row w0
  exact ⟨bs, h⟩
end Go.Proofs.YthndkkjgjhgdnaaDoor
namespace Go.Proofs.YthndkkjgjhgdnaaDoor
open Go.ChangeShapes Go.WideShapes Go.ChangeAt Go.RowKit
set_option linter.unusedVariables false
set_option maxRecDepth 100000
variable {H : Type} {enc : TypeId × Value → H} {W : World} {r : Reach} {b0 base : Nat} {sp : Nat → Bool} {held : Bool} {v : Value} {d : DataW H} {p : List MemPlace}

theorem cells_get {w : World} {base n : Nat} {a : Addr} {cs : List Value} (h : w.cells? base a n = some cs) : ∀ j u, cs[j]? = some u → w.cell? (a.add j) = some u := by
  unfold World.cells? at h
  split at h
  · intro j u hu
    have hl : cs.length = n := by simpa using mapM_some_length h
    have hj : j < n := by rw [← hl]; exact (List.getElem?_eq_some_iff.1 hu).1
    rw [mapM_some_get h j j (by simp [hj])]
    exact hu
  · cases h
/-- A slice of elements of several cells, as the frame tells it. -/
theorem rows_read {α : Type} {cl : α → List Value} {sz : Nat} {T TS : TypeId} {good : α → Prop} (ht : Tryd.prog.underlying TS = some (.slice T)) (hc : Tryd.prog.cellsOf T = sz) (hs : 0 < sz) (hcl : ∀ a, (cl a).length = sz)
    (hel : ∀ n cs x, DataW.trod enc Tryd.prog W base sp held n T cs = some x → ∃ a, cs = cl a ∧ good a)
    {fuel : Nat} {cs : List Value} {x : DataW H × List MemPlace} (h : DataW.trod enc Tryd.prog W base sp held fuel TS cs = some x) : ∃ sv ms, cs = [sv] ∧ Rw sz cl W sv ms ∧ ∀ m ∈ ms, good m := by
  rcases DataW.trod_slice ht h with ⟨rfl, _⟩ | ⟨a, len, cap, elems, rest, n, _, rfl, _, _, hl, hm, hlen, he, _⟩
  · exact ⟨_, [], rfl, Rw.nil _ _ _ (by omega), fun m h => by cases h⟩
  · have hmx : maxLen = 9223372036854775807 := rfl
    have each : ∀ i, i < len → ∃ m, good m ∧ ∀ j u, (cl m)[j]? = some u → W.cell? ((a.add (i * sz)).add j) = some u := fun i hi => by
      have h1 := he i hi
      rw [List.getElem?_eq_getElem (by omega), Option.bind_eq_some_iff] at h1
      obtain ⟨c1, hc1, hy⟩ := h1
      obtain ⟨m, rfl, hg⟩ := hel _ _ _ hy
      rw [hc] at hc1
      exact ⟨m, hg, cells_get hc1⟩
    have all : ∀ k, k ≤ len → ∃ ms : List α, ms.length = k ∧ (∀ m ∈ ms, good m) ∧ ∀ i (hi : i < ms.length) j u, (cl ms[i])[j]? = some u → W.cell? ((a.add (i * sz)).add j) = some u := by
      intro k
      induction k with
      | zero => exact fun _ => ⟨[], rfl, (fun m h => by cases h), fun i hi => by simp at hi⟩
      | succ k ih =>
        intro hk
        obtain ⟨ms, h1, h2, h3⟩ := ih (by omega)
        obtain ⟨m, g, hcm⟩ := each k (by omega)
        refine ⟨ms ++ [m], by simp [h1], fun y hy => ?_, fun i hi j u hu => ?_⟩
        · rcases List.mem_append.1 hy with hy | hy
          · exact h2 y hy
          · obtain rfl : y = m := by simpa using hy
            exact g
        · by_cases e : i < ms.length
          · rw [List.getElem_append_left e] at hu
            exact h3 i e j u hu
          · have e2 : i = k := by simp at hi; omega
            subst e2
            rw [List.getElem_append_right (by omega)] at hu
            have e3 : i - ms.length = 0 := by omega
            simp only [e3, List.getElem_cons_zero] at hu
            exact hcm j u hu
    obtain ⟨ms, h1, h2, h3⟩ := all len (Nat.le_refl _)
    refine ⟨_, ms, rfl, ⟨by omega, some a, cap, by rw [h1], by omega, ?_⟩, h2⟩
    rcases Nat.eq_zero_or_pos len with h0 | h0
    · exact .inl (List.length_eq_zero_iff.1 (by omega))
    · have hp0 : 0 < ms.length := by omega
      obtain ⟨u, hu⟩ : ∃ u, (cl ms[0])[0]? = some u := ⟨_, List.getElem?_eq_getElem (by rw [hcl ms[0]]; exact hs)⟩
      have c0 := h3 0 hp0 0 u hu
      obtain ⟨b, off, spot⟩ := a
      have hspot : spot = none := by simpa [Addr.add] using World.cell?_spot c0
      subst hspot
      exact .inr ⟨b, off, rfl, fun i hi j u hu => by have := h3 i hi j u hu; rw [Go.WideShapes.add_plain, Go.WideShapes.add_plain] at this; exact this⟩
end Go.Proofs.YthndkkjgjhgdnaaDoor
namespace Go.Proofs.YthndkkjgjhgdnaaDoor
open Go.ChangeShapes Go.WideShapes Go.ChangeAt Go.RowKit
set_option maxRecDepth 100000
variable {H : Type} {enc : TypeId × Value → H} {W : World} {r : Reach} {b0 base : Nat} {sp : Nat → Bool} {held : Bool} {v : Value} {d : DataW H} {p : List MemPlace}

/-- Each is an int. -/
def allInt (xs : List Int) : Prop := ∀ x ∈ xs, -9223372036854775808 ≤ x ∧ x ≤ 9223372036854775807
theorem ns_of_row {w : World} {a : Option Addr} {len cap : Nat} {zs : List Int} (h : IsRow .i64 w a len cap zs) : ∃ bs : List Int, Ns w (.slice a len cap) bs ∧ allInt bs := by
  rcases h with ⟨rfl, rfl, rfl, rfl⟩ | ⟨x, rfl, h1, h2, h3, h4, h5⟩
  · exact ⟨[], ⟨by simp, none, 0, rfl, by simp, .inl rfl⟩, fun x h => by cases h⟩
  · have hm : maxLen = 9223372036854775807 := rfl
    have hl : (zs.take len).length = len := by simp; omega
    refine ⟨zs.take len, ⟨by omega, some x, cap, by rw [hl], by rw [hl]; omega, ?_⟩, fun x h => bounds_i64 (h5 x (List.mem_of_mem_take h))⟩
    rcases Nat.eq_zero_or_pos len with h0 | h0
    · exact .inl (by subst h0; simp)
    · obtain ⟨b, off, rfl, hc⟩ := ints_at h4 (by omega)
      refine .inr ⟨b, off, rfl, fun i hi => ?_⟩
      have hi' : i < zs.length := by omega
      have hcell := hc i hi'
      have hg : zs.getD i 0 = zs[i] := by simp [List.getD, hi']
      rw [hg] at hcell
      rw [hcell]
      simp
theorem ints_read {fuel : Nat} {cs : List Value} {x : DataW H × List MemPlace} (h : DataW.trod enc Tryd.prog W base (fun _ => true) held fuel 24 cs = some x) : ∃ sv bs, cs = [sv] ∧ Ns W sv bs ∧ allInt bs := by
  rcases open_ints Tryd.underlying24 Tryd.underlying3 (by kernel_rfl) h with ⟨hcs, _⟩ | ⟨x, l, c, zs, hcs, _, hl, hm, hz, _, hcell, hwz⟩
  · subst hcs
    exact ⟨_, [], rfl, ⟨by simp, none, 0, rfl, by simp, .inl rfl⟩, fun x h => by cases h⟩
  · subst hcs
    obtain ⟨bs, h1, h2⟩ := ns_of_row (w := W) (a := some x) (len := l) (cap := c) (zs := zs) (.inr ⟨_, rfl, hl, hm, by simpa using hz, hcell, hwz⟩)
    exact ⟨_, bs, rfl, h1, h2⟩
theorem open_Sint (hv : Value.okWide Tryd.prog W r b0 24 v) (h : DataW.Trod enc Tryd.prog W base (fun _ => true) held 24 v d p) : ∃ bs : List Int, Ns W v bs ∧ allInt bs := by
  obtain ⟨a0, len0, cap0, rfl⟩ := okWide_slice Tryd.underlying24 hv
  obtain ⟨fuel, hf⟩ := h
  obtain ⟨sv, bs, hcs, h1, h2⟩ := ints_read hf
  simp [Value.cells] at hcs
  subst hcs
  exact ⟨bs, h1, h2⟩
/-- A config in memory: its domains, and its copies. -/
def CfgIs (w : World) (v : Value) (c : List Int × Int) : Prop := (∃ sv, v = .agg #[sv, .int .i64 c.2] ∧ Ns w sv c.1) ∧ allInt c.1 ∧ -9223372036854775808 ≤ c.2 ∧ c.2 ≤ 9223372036854775807
end Go.Proofs.YthndkkjgjhgdnaaDoor
namespace Go.Proofs.YthndkkjgjhgdnaaDoor
open Go.ChangeShapes Go.WideShapes Go.ChangeAt Go.RowKit
set_option linter.unusedVariables false

/-- What is left of a size. -/
def left1 (n : Nat) (left : Int) : Int := if left < (n : Int) then -1 else left - (n : Int)
end Go.Proofs.YthndkkjgjhgdnaaDoor
namespace Go.Proofs.YthndkkjgjhgdnaaDoor
open Go.ChangeShapes Go.WideShapes Go.ChangeAt Go.RowKit
set_option linter.unusedVariables false

/-- Two cells of block b, from block B on, that may be written. -/
def TwoZ (w : World) (B b : Nat) (c0 c1 : Value) : Prop := B ≤ b ∧ Two w b c0 c1 ∧ w.frozen? ⟨b, 0, none⟩ = false ∧ w.frozen? ⟨b, 1, none⟩ = false
theorem TwoZ.kept {w w' : World} {B b : Nat} {c0 c1 : Value} (h : TwoZ w B b c0 c1) (hb : Below w.heap.size w w') : TwoZ w' B b c0 c1 := by
  obtain ⟨h0, h1, f0, f1⟩ := h
  have lt := dCell_lt h1.1
  exact ⟨h0, h1.kept hb, (hb.frozen (p := ⟨b, 0, none⟩) lt).trans f0, (hb.frozen (p := ⟨b, 1, none⟩) lt).trans f1⟩
theorem TwoZ.drawn {w w' : World} {bk B b : Nat} {c0 c1 : Value} (h : TwoZ w B b c0 c1) (hd : Drawn bk w w') (hb : b ≠ bk) : TwoZ w' B b c0 c1 := by
  obtain ⟨h0, ⟨k0, k1⟩, f0, f1⟩ := h
  have lt := dCell_lt k0
  exact ⟨h0, ⟨hd.cell k0 hb, hd.cell k1 hb⟩, (hd.frozen hb lt).trans f0, (hd.frozen hb lt).trans f1⟩
theorem TwoZ.fresh (w : World) (c0 c1 : Value) (T : TypeId) : TwoZ (w.alloc (.cells #[c0, c1] T)) w.heap.size w.heap.size c0 c1 := ⟨Nat.le_refl _, Two.new w _ _ _, by simp, by simp⟩
theorem TwoZ.put0 {w : World} {B b : Nat} {c0 c1 : Value} (h : TwoZ w B b c0 c1) (v : Value) : TwoZ (w.setCell ⟨b, 0, none⟩ v) B b v c1 := by
  obtain ⟨h0, ⟨k0, k1⟩, f0, f1⟩ := h
  exact ⟨h0, ⟨World.cell?_setCell_same _ _ _ k0, set_other k1 (by omega)⟩, (World.frozen?_setCell _ _ _ _).trans f0, (World.frozen?_setCell _ _ _ _).trans f1⟩
theorem TwoZ.put1 {w : World} {B b : Nat} {c0 c1 : Value} (h : TwoZ w B b c0 c1) (v : Value) : TwoZ (w.setCell ⟨b, 1, none⟩ v) B b c0 v := by
  obtain ⟨h0, ⟨k0, k1⟩, f0, f1⟩ := h
  exact ⟨h0, ⟨set_other k0 (by omega), World.cell?_setCell_same _ _ _ k1⟩, (World.frozen?_setCell _ _ _ _).trans f0, (World.frozen?_setCell _ _ _ _).trans f1⟩
theorem TwoZ.far {w : World} {B b b' o : Nat} {c0 c1 : Value} (h : TwoZ w B b c0 c1) (hb : b ≠ b') (v : Value) : TwoZ (w.setCell ⟨b', o, none⟩ v) B b c0 c1 := by
  obtain ⟨h0, ⟨k0, k1⟩, f0, f1⟩ := h
  exact ⟨h0, ⟨set_other k0 (by omega), set_other k1 (by omega)⟩, (World.frozen?_setCell _ _ _ _).trans f0, (World.frozen?_setCell _ _ _ _).trans f1⟩
end Go.Proofs.YthndkkjgjhgdnaaDoor
namespace Go.Proofs.YthndkkjgjhgdnaaDoor
open Go.ChangeShapes Go.WideShapes Go.ChangeAt Go.RowKit
set_option linter.unusedVariables false

def RdIntS (v : Value) (m : List Int) (W : World) : Prop := Ns W v m
def OwIntS (lo hi : Nat) (v : Value) (m : List Int) (W : World) : Prop := OwN lo hi v m W
def sizIntS (m : List Int) : Nat := m.length
def cntIntS (m : List Int) : Nat := m.length
def mkIntS (k : Nat) (m : List Int) : List Int := marksN k m.length
theorem OwIntS.rd {lo hi : Nat} {v : Value} {m : List Int} {W : World} (h : OwIntS lo hi v m W) : RdIntS v m W := OwN.rd h
theorem RdIntS.below {v : Value} {m : List Int} {W W' : World} (h : RdIntS v m W) (b : Below W.heap.size W W') : RdIntS v m W' := Ns.below h b
theorem formIntS {v : Value} {m : List Int} {W : World} (h : RdIntS v m W) : ∃ a cap, v = .slice a m.length cap ∧ m.length ≤ 9223372036854775807 := by
  obtain ⟨h0, a, cap, rfl, -, -⟩ := h
  exact ⟨a, cap, rfl, h0⟩
def RdConfig (v : Value) (m : List Int × Int) (W : World) : Prop := ∃ sv, v = .agg #[sv, .int .i64 m.2] ∧ Ns W sv m.1
def OwConfig (lo hi : Nat) (v : Value) (m : List Int × Int) (W : World) : Prop := ∃ sv, v = .agg #[sv, .int .i64 m.2] ∧ OwN lo hi sv m.1 W
def sizConfig (m : List Int × Int) : Nat := m.1.length
def cntConfig (m : List Int × Int) : Nat := m.1.length
def mkConfig (k : Nat) (m : List Int × Int) : List Int × Int := (marksN k m.1.length, m.2)
theorem OwConfig.rd {lo hi : Nat} {v : Value} {m : List Int × Int} {W : World} (h : OwConfig lo hi v m W) : RdConfig v m W := by
  obtain ⟨sv, h1, h2⟩ := h; exact ⟨sv, h1, h2.rd⟩
theorem RdConfig.below {v : Value} {m : List Int × Int} {W W' : World} (h : RdConfig v m W) (b : Below W.heap.size W W') : RdConfig v m W' := by
  obtain ⟨sv, h1, h2⟩ := h; exact ⟨sv, h1, h2.below b⟩
theorem formConfig {v : Value} {m : List Int × Int} {W : World} (h : RdConfig v m W) : ∃ a cap, v = .agg #[.slice a m.1.length cap, .int .i64 m.2] ∧ m.1.length ≤ 9223372036854775807 := by
  obtain ⟨sv, rfl, h0, a, cap, rfl, -, -⟩ := h
  exact ⟨a, cap, rfl, h0⟩
/-- What a law's frame tells of a list of ints, of a config. -/
def okIntS (m : List Int) : Prop := allInt m
def IsIntS (v : Value) (m : List Int) (w : World) : Prop := RdIntS v m w ∧ okIntS m
def okConfig (m : List Int × Int) : Prop := allInt m.1 ∧ -9223372036854775808 ≤ m.2 ∧ m.2 ≤ 9223372036854775807
def IsConfig (v : Value) (m : List Int × Int) (w : World) : Prop := RdConfig v m w ∧ okConfig m
theorem cntIntS_le {m : List Int} (h : sizIntS m ≤ 1048576) : cntIntS m ≤ 1048576 := h
theorem cntConfig_le {m : List Int × Int} (h : sizConfig m ≤ 1048576) : cntConfig m ≤ 1048576 := h
end Go.Proofs.YthndkkjgjhgdnaaDoor
