/- Several texts in one: OpenA, OpenB, OpenK, DomH, DomI, SitC, RgA, OpenR, SitR. -/
import Derived.Test.YthndkkjgjhgdnaaGreatDoorGaA
import Derived.WalkKit
import Derived.ProofKit
import Derived.OpenShut
import Derived.ShutString
import Derived.Lib.SmallJoins
import Derived.Test.YthndkkjgjhgdnaaGreatDoorGaC
import Derived.Test.YthndkkjgjhgdnaaGreatDoorGaB
import Derived.Deep.Strs
import Derived.Deep.RegionHeld3
import Derived.Deep.DeepCutAuto
namespace Go.Proofs.YthndkkjgjhgdnaaGreatDoor
open Go.ChangeShapes Go.WideShapes Go.ChangeAt Go.RowKit
set_option maxRecDepth 100000
open Go.ChangeMaps (open_string shut_string)
variable {H : Type} {enc : TypeId × Value → H} {W : World} {r : Reach} {b0 base : Nat} {sp : Nat → Bool} {held : Bool} {v : Value} {d : DataW H} {p : List MemPlace}

theorem open_Int (hv : Value.okWide Tryz.prog W r b0 3 v) (h : DataW.Trod enc Tryz.prog W base sp held 3 v d p) : ∃ n : Int, v = .int .i64 n ∧ -9223372036854775808 ≤ n ∧ n ≤ 9223372036854775807 := by
  obtain ⟨n, rfl, -, -, w⟩ := open_int Tryz.underlying3 hv h
  exact ⟨n, rfl, bounds_i64 w⟩
theorem open_Str (hv : Value.okWide Tryz.prog W r b0 9 v) (h : DataW.Trod enc Tryz.prog W base sp held 9 v d p) : ∃ s : ByteArray, v = .string s ∧ s.size ≤ 9223372036854775807 := by
  obtain ⟨s, rfl, -, -, hs⟩ := open_string Tryz.underlying9 hv h
  exact ⟨s, rfl, hs⟩
theorem open_Bool (hv : Value.okWide Tryz.prog W r b0 4 v) (h : DataW.Trod enc Tryz.prog W base sp held 4 v d p) : ∃ b : Bool, v = .bool b := by
  obtain ⟨b, rfl, -, -⟩ := open_bool Tryz.underlying4 hv h
  exact ⟨b, rfl⟩
theorem open_Bytes (hv : Value.okWide Tryz.prog W r b0 22 v) (h : DataW.Trod enc Tryz.prog W base (fun _ => true) held 22 v d p) : ∃ bs : List UInt8, Bs W v bs := by
  obtain ⟨a0, len0, cap0, rfl⟩ := okWide_slice Tryz.underlying22 hv
  obtain ⟨z0, w0⟩ : ∃ zs, IsRow .u8 W a0 len0 cap0 zs := by
    obtain ⟨fuel, hf⟩ := h
    rcases open_ints Tryz.underlying22 Tryz.underlying5 (by kernel_rfl) hf with ⟨hcs, _⟩ | ⟨x, l, c, zs, hcs, _, hl, hm, hz, _, hcell, hwz⟩
    · simp [Value.cells] at hcs
      obtain ⟨rfl, rfl, rfl⟩ := hcs
      exact ⟨[], .inl ⟨rfl, rfl, rfl, rfl⟩⟩
    · simp [Value.cells] at hcs
      obtain ⟨rfl, rfl, rfl⟩ := hcs
      exact ⟨zs, .inr ⟨_, rfl, hl, hm, by simpa using hz, hcell, hwz⟩⟩
  obtain ⟨bs, -, h⟩ := bs_of_row w0
  exact ⟨bs, h⟩
end Go.Proofs.YthndkkjgjhgdnaaGreatDoor
namespace Go.Proofs.YthndkkjgjhgdnaaGreatDoor
open Go.ChangeShapes Go.WideShapes Go.ChangeAt Go.RowKit
set_option maxRecDepth 100000
variable {H : Type} {enc : TypeId × Value → H} {W : World} {r : Reach} {b0 base : Nat} {sp : Nat → Bool} {held : Bool} {v : Value} {d : DataW H} {p : List MemPlace}

/-- Each is an int. -/
def allInt (xs : List Int) : Prop := ∀ x ∈ xs, -9223372036854775808 ≤ x ∧ x ≤ 9223372036854775807
theorem ns_of_row {w : World} {a : Option Addr} {len cap : Nat} {zs : List Int} (h : IsRow .i64 w a len cap zs) : ∃ bs : List Int, Ns w (.slice a len cap) bs ∧ allInt bs := by
  rcases h with ⟨rfl, rfl, rfl, rfl⟩ | ⟨x, rfl, h1, h2, h3, h4, h5⟩
  · exact ⟨[], ⟨by simp, none, 0, rfl, by simp, .inl rfl⟩, fun x h => by cases h⟩
  · have hm : maxLen = 9223372036854775807 := rfl
    have hl : (zs.take len).length = len := by simp; omega
    refine ⟨zs.take len, ⟨by omega, some x, cap, by rw [hl], by rw [hl]; omega, ?_⟩, fun x h => bounds_i64 (h5 x (List.mem_of_mem_take h))⟩
    rcases Nat.eq_zero_or_pos len with h0 | h0
    · exact .inl (by subst h0; simp)
    · obtain ⟨b, off, rfl, hc⟩ := ints_at h4 (by omega)
      refine .inr ⟨b, off, rfl, fun i hi => ?_⟩
      have hi' : i < zs.length := by omega
      have hcell := hc i hi'
      have hg : zs.getD i 0 = zs[i] := by simp [List.getD, hi']
      rw [hg] at hcell
      rw [hcell]
      simp
theorem ints_read {fuel : Nat} {cs : List Value} {x : DataW H × List MemPlace} (h : DataW.trod enc Tryz.prog W base (fun _ => true) held fuel 24 cs = some x) : ∃ sv bs, cs = [sv] ∧ Ns W sv bs ∧ allInt bs := by
  rcases open_ints Tryz.underlying24 Tryz.underlying3 (by kernel_rfl) h with ⟨hcs, _⟩ | ⟨x, l, c, zs, hcs, _, hl, hm, hz, _, hcell, hwz⟩
  · subst hcs
    exact ⟨_, [], rfl, ⟨by simp, none, 0, rfl, by simp, .inl rfl⟩, fun x h => by cases h⟩
  · subst hcs
    obtain ⟨bs, h1, h2⟩ := ns_of_row (w := W) (a := some x) (len := l) (cap := c) (zs := zs) (.inr ⟨_, rfl, hl, hm, by simpa using hz, hcell, hwz⟩)
    exact ⟨_, bs, rfl, h1, h2⟩
theorem open_Sint (hv : Value.okWide Tryz.prog W r b0 24 v) (h : DataW.Trod enc Tryz.prog W base (fun _ => true) held 24 v d p) : ∃ bs : List Int, Ns W v bs ∧ allInt bs := by
  obtain ⟨a0, len0, cap0, rfl⟩ := okWide_slice Tryz.underlying24 hv
  obtain ⟨fuel, hf⟩ := h
  obtain ⟨sv, bs, hcs, h1, h2⟩ := ints_read hf
  simp [Value.cells] at hcs
  subst hcs
  exact ⟨bs, h1, h2⟩
/-- A config in memory: its domains, and its copies. -/
def CfgIs (w : World) (v : Value) (c : List Int × Int) : Prop := (∃ sv, v = .agg #[sv, .int .i64 c.2] ∧ Ns w sv c.1) ∧ allInt c.1 ∧ -9223372036854775808 ≤ c.2 ∧ c.2 ≤ 9223372036854775807
end Go.Proofs.YthndkkjgjhgdnaaGreatDoor
namespace Go.Proofs.YthndkkjgjhgdnaaGreatDoor
open Go.ChangeShapes Go.WideShapes Go.ChangeAt Go.RowKit
set_option linter.unusedVariables false
set_option maxRecDepth 100000
variable {H : Type} {enc : TypeId × Value → H} {W : World} {r : Reach} {b0 base : Nat} {sp : Nat → Bool} {held : Bool} {v : Value} {d : DataW H} {p : List MemPlace}

theorem cells_get {w : World} {base n : Nat} {a : Addr} {cs : List Value} (h : w.cells? base a n = some cs) : ∀ j u, cs[j]? = some u → w.cell? (a.add j) = some u := by
  unfold World.cells? at h
  split at h
  · intro j u hu
    have hl : cs.length = n := by simpa using mapM_some_length h
    have hj : j < n := by rw [← hl]; exact (List.getElem?_eq_some_iff.1 hu).1
    rw [mapM_some_get h j j (by simp [hj])]
    exact hu
  · cases h
/-- A slice of elements of several cells, as the frame tells it. -/
theorem rows_read {α : Type} {cl : α → List Value} {sz : Nat} {T TS : TypeId} {good : α → Prop} (ht : Tryz.prog.underlying TS = some (.slice T)) (hc : Tryz.prog.cellsOf T = sz) (hs : 0 < sz) (hcl : ∀ a, (cl a).length = sz)
    (hel : ∀ n cs x, DataW.trod enc Tryz.prog W base sp held n T cs = some x → ∃ a, cs = cl a ∧ good a)
    {fuel : Nat} {cs : List Value} {x : DataW H × List MemPlace} (h : DataW.trod enc Tryz.prog W base sp held fuel TS cs = some x) : ∃ sv ms, cs = [sv] ∧ Rw sz cl W sv ms ∧ ∀ m ∈ ms, good m := by
  rcases DataW.trod_slice ht h with ⟨rfl, _⟩ | ⟨a, len, cap, elems, rest, n, _, rfl, _, _, hl, hm, hlen, he, _⟩
  · exact ⟨_, [], rfl, Rw.nil _ _ _ (by omega), fun m h => by cases h⟩
  · have hmx : maxLen = 9223372036854775807 := rfl
    have each : ∀ i, i < len → ∃ m, good m ∧ ∀ j u, (cl m)[j]? = some u → W.cell? ((a.add (i * sz)).add j) = some u := fun i hi => by
      have h1 := he i hi
      rw [List.getElem?_eq_getElem (by omega), Option.bind_eq_some_iff] at h1
      obtain ⟨c1, hc1, hy⟩ := h1
      obtain ⟨m, rfl, hg⟩ := hel _ _ _ hy
      rw [hc] at hc1
      exact ⟨m, hg, cells_get hc1⟩
    have all : ∀ k, k ≤ len → ∃ ms : List α, ms.length = k ∧ (∀ m ∈ ms, good m) ∧ ∀ i (hi : i < ms.length) j u, (cl ms[i])[j]? = some u → W.cell? ((a.add (i * sz)).add j) = some u := by
      intro k
      induction k with
      | zero => exact fun _ => ⟨[], rfl, (fun m h => by cases h), fun i hi => by simp at hi⟩
      | succ k ih =>
        intro hk
        obtain ⟨ms, h1, h2, h3⟩ := ih (by omega)
        obtain ⟨m, g, hcm⟩ := each k (by omega)
        refine ⟨ms ++ [m], by simp [h1], fun y hy => ?_, fun i hi j u hu => ?_⟩
        · rcases List.mem_append.1 hy with hy | hy
          · exact h2 y hy
          · obtain rfl : y = m := by simpa using hy
            exact g
        · by_cases e : i < ms.length
          · rw [List.getElem_append_left e] at hu
            exact h3 i e j u hu
          · have e2 : i = k := by simp at hi; omega
            subst e2
            rw [List.getElem_append_right (by omega)] at hu
            have e3 : i - ms.length = 0 := by omega
            simp only [e3, List.getElem_cons_zero] at hu
            exact hcm j u hu
    obtain ⟨ms, h1, h2, h3⟩ := all len (Nat.le_refl _)
    refine ⟨_, ms, rfl, ⟨by omega, some a, cap, by rw [h1], by omega, ?_⟩, h2⟩
    rcases Nat.eq_zero_or_pos len with h0 | h0
    · exact .inl (List.length_eq_zero_iff.1 (by omega))
    · have hp0 : 0 < ms.length := by omega
      obtain ⟨u, hu⟩ : ∃ u, (cl ms[0])[0]? = some u := ⟨_, List.getElem?_eq_getElem (by rw [hcl ms[0]]; exact hs)⟩
      have c0 := h3 0 hp0 0 u hu
      obtain ⟨b, off, spot⟩ := a
      have hspot : spot = none := by simpa [Addr.add] using World.cell?_spot c0
      subst hspot
      exact .inr ⟨b, off, rfl, fun i hi j u hu => by have := h3 i hi j u hu; rw [Go.WideShapes.add_plain, Go.WideShapes.add_plain] at this; exact this⟩
end Go.Proofs.YthndkkjgjhgdnaaGreatDoor
namespace Go.Proofs.YthndkkjgjhgdnaaGreatDoor
open Go.ChangeShapes Go.WideShapes Go.ChangeAt Go.RowKit
set_option linter.unusedVariables false

/-- What is left of a size. -/
def left1 (n : Nat) (left : Int) : Int := if left < (n : Int) then -1 else left - (n : Int)
end Go.Proofs.YthndkkjgjhgdnaaGreatDoor
namespace Go.Proofs.YthndkkjgjhgdnaaGreatDoor
open Go.ChangeShapes Go.WideShapes Go.ChangeAt Go.RowKit
set_option linter.unusedVariables false

/-- Two cells of block b, from block B on, that may be written. -/
def TwoZ (w : World) (B b : Nat) (c0 c1 : Value) : Prop := B ≤ b ∧ Two w b c0 c1 ∧ w.frozen? ⟨b, 0, none⟩ = false ∧ w.frozen? ⟨b, 1, none⟩ = false
theorem TwoZ.kept {w w' : World} {B b : Nat} {c0 c1 : Value} (h : TwoZ w B b c0 c1) (hb : Below w.heap.size w w') : TwoZ w' B b c0 c1 := by
  obtain ⟨h0, h1, f0, f1⟩ := h
  have lt := dCell_lt h1.1
  exact ⟨h0, h1.kept hb, (hb.frozen (p := ⟨b, 0, none⟩) lt).trans f0, (hb.frozen (p := ⟨b, 1, none⟩) lt).trans f1⟩
theorem TwoZ.drawn {w w' : World} {bk B b : Nat} {c0 c1 : Value} (h : TwoZ w B b c0 c1) (hd : Drawn bk w w') (hb : b ≠ bk) : TwoZ w' B b c0 c1 := by
  obtain ⟨h0, ⟨k0, k1⟩, f0, f1⟩ := h
  have lt := dCell_lt k0
  exact ⟨h0, ⟨hd.cell k0 hb, hd.cell k1 hb⟩, (hd.frozen hb lt).trans f0, (hd.frozen hb lt).trans f1⟩
theorem TwoZ.fresh (w : World) (c0 c1 : Value) (T : TypeId) : TwoZ (w.alloc (.cells #[c0, c1] T)) w.heap.size w.heap.size c0 c1 := ⟨Nat.le_refl _, Two.new w _ _ _, by simp, by simp⟩
theorem TwoZ.put0 {w : World} {B b : Nat} {c0 c1 : Value} (h : TwoZ w B b c0 c1) (v : Value) : TwoZ (w.setCell ⟨b, 0, none⟩ v) B b v c1 := by
  obtain ⟨h0, ⟨k0, k1⟩, f0, f1⟩ := h
  exact ⟨h0, ⟨World.cell?_setCell_same _ _ _ k0, set_other k1 (by omega)⟩, (World.frozen?_setCell _ _ _ _).trans f0, (World.frozen?_setCell _ _ _ _).trans f1⟩
theorem TwoZ.put1 {w : World} {B b : Nat} {c0 c1 : Value} (h : TwoZ w B b c0 c1) (v : Value) : TwoZ (w.setCell ⟨b, 1, none⟩ v) B b c0 v := by
  obtain ⟨h0, ⟨k0, k1⟩, f0, f1⟩ := h
  exact ⟨h0, ⟨set_other k0 (by omega), World.cell?_setCell_same _ _ _ k1⟩, (World.frozen?_setCell _ _ _ _).trans f0, (World.frozen?_setCell _ _ _ _).trans f1⟩
theorem TwoZ.far {w : World} {B b b' o : Nat} {c0 c1 : Value} (h : TwoZ w B b c0 c1) (hb : b ≠ b') (v : Value) : TwoZ (w.setCell ⟨b', o, none⟩ v) B b c0 c1 := by
  obtain ⟨h0, ⟨k0, k1⟩, f0, f1⟩ := h
  exact ⟨h0, ⟨set_other k0 (by omega), set_other k1 (by omega)⟩, (World.frozen?_setCell _ _ _ _).trans f0, (World.frozen?_setCell _ _ _ _).trans f1⟩
end Go.Proofs.YthndkkjgjhgdnaaGreatDoor
namespace Go.Proofs.YthndkkjgjhgdnaaGreatDoor
open Go.ChangeShapes Go.WideShapes Go.ChangeAt Go.RowKit
set_option linter.unusedVariables false

def RdIntS (v : Value) (m : List Int) (W : World) : Prop := Ns W v m
def OwIntS (lo hi : Nat) (v : Value) (m : List Int) (W : World) : Prop := OwN lo hi v m W
def sizIntS (m : List Int) : Nat := m.length
def cntIntS (m : List Int) : Nat := m.length
def mkIntS (k : Nat) (m : List Int) : List Int := marksN k m.length
theorem OwIntS.rd {lo hi : Nat} {v : Value} {m : List Int} {W : World} (h : OwIntS lo hi v m W) : RdIntS v m W := OwN.rd h
theorem RdIntS.below {v : Value} {m : List Int} {W W' : World} (h : RdIntS v m W) (b : Below W.heap.size W W') : RdIntS v m W' := Ns.below h b
theorem formIntS {v : Value} {m : List Int} {W : World} (h : RdIntS v m W) : ∃ a cap, v = .slice a m.length cap ∧ m.length ≤ 9223372036854775807 := by
  obtain ⟨h0, a, cap, rfl, -, -⟩ := h
  exact ⟨a, cap, rfl, h0⟩
def RdConfig (v : Value) (m : List Int × Int) (W : World) : Prop := ∃ sv, v = .agg #[sv, .int .i64 m.2] ∧ Ns W sv m.1
def OwConfig (lo hi : Nat) (v : Value) (m : List Int × Int) (W : World) : Prop := ∃ sv, v = .agg #[sv, .int .i64 m.2] ∧ OwN lo hi sv m.1 W
def sizConfig (m : List Int × Int) : Nat := m.1.length
def cntConfig (m : List Int × Int) : Nat := m.1.length
def mkConfig (k : Nat) (m : List Int × Int) : List Int × Int := (marksN k m.1.length, m.2)
theorem OwConfig.rd {lo hi : Nat} {v : Value} {m : List Int × Int} {W : World} (h : OwConfig lo hi v m W) : RdConfig v m W := by
  obtain ⟨sv, h1, h2⟩ := h; exact ⟨sv, h1, h2.rd⟩
theorem RdConfig.below {v : Value} {m : List Int × Int} {W W' : World} (h : RdConfig v m W) (b : Below W.heap.size W W') : RdConfig v m W' := by
  obtain ⟨sv, h1, h2⟩ := h; exact ⟨sv, h1, h2.below b⟩
theorem formConfig {v : Value} {m : List Int × Int} {W : World} (h : RdConfig v m W) : ∃ a cap, v = .agg #[.slice a m.1.length cap, .int .i64 m.2] ∧ m.1.length ≤ 9223372036854775807 := by
  obtain ⟨sv, rfl, h0, a, cap, rfl, -, -⟩ := h
  exact ⟨a, cap, rfl, h0⟩
/-- What a law's frame tells of a list of ints, of a config. -/
def okIntS (m : List Int) : Prop := allInt m
def IsIntS (v : Value) (m : List Int) (w : World) : Prop := RdIntS v m w ∧ okIntS m
def okConfig (m : List Int × Int) : Prop := allInt m.1 ∧ -9223372036854775808 ≤ m.2 ∧ m.2 ≤ 9223372036854775807
def IsConfig (v : Value) (m : List Int × Int) (w : World) : Prop := RdConfig v m w ∧ okConfig m
theorem cntIntS_le {m : List Int} (h : sizIntS m ≤ 1048576) : cntIntS m ≤ 1048576 := h
theorem cntConfig_le {m : List Int × Int} (h : sizConfig m ≤ 1048576) : cntConfig m ≤ 1048576 := h
end Go.Proofs.YthndkkjgjhgdnaaGreatDoor
namespace Go.Proofs.YthndkkjgjhgdnaaGreatDoor
open Go.ChangeShapes Go.WideShapes Go.ChangeAt Go.RowKit
set_option linter.unusedVariables false
set_option linter.unusedSimpArgs false

/-- An era. -/
structure Er where
  nodes : List Int
  closed : Bool
  last : Int
/-- A register. -/
structure Rg where
  eras : List Er
  trim : Int
/-- The cells of an era. -/
def erCl (p : Nst Er) : List Value := [Sv Er.nodes p, .bool p.m.closed, .int .i64 p.m.last]
/-- An era as a value. -/
def erVal (p : Nst Er) : Value := .agg #[Sv Er.nodes p, .bool p.m.closed, .int .i64 p.m.last]
theorem erCl_len (p : Nst Er) : (erCl p).length = 3 := rfl
theorem elemR : Elem (α := Nst Er) 57 27 (.agg #[.slice none 0 0, .bool false, .int .i64 0]) 3 40 erCl where
  under := Tryz.underlying27
  info := by kernel_rfl
  zcells := by kernel_rfl
  pos := by decide
  len := erCl_len
  one := fun a u hu => by
    simp only [erCl, List.mem_cons, List.not_mem_nil, or_false] at hu
    rcases hu with rfl | rfl | rfl <;> rfl
/-- The three cells of an era in a row. -/
def ErAt (w : World) (b o : Nat) (p : Nst Er) : Prop := w.cell? ⟨b, o, none⟩ = some (.slice p.a p.m.nodes.length p.c) ∧ w.cell? ⟨b, o + 1, none⟩ = some (.bool p.m.closed) ∧ w.cell? ⟨b, o + 2, none⟩ = some (.int .i64 p.m.last)
theorem ErAt.below {w w' : World} {b o : Nat} {p : Nst Er} (h : ErAt w b o p) (hb : Below w.heap.size w w') : ErAt w' b o p :=
  ⟨(hb.cell (p := ⟨b, o, none⟩) (dCell_lt h.1)).trans h.1, (hb.cell (p := ⟨b, o + 1, none⟩) (dCell_lt h.2.1)).trans h.2.1, (hb.cell (p := ⟨b, o + 2, none⟩) (dCell_lt h.2.2)).trans h.2.2⟩
theorem Rw.era {w : World} {a : Option Addr} {n cap : Nat} {rs : List (Nst Er)} (h : Rw 3 erCl w (.slice a n cap) rs) {k : Nat} (hk : k < rs.length) : ∃ b off, a = some ⟨b, off, none⟩ ∧ ∀ i (hi : i < rs.length), ErAt w b (off + i * 3) rs[i] := by
  obtain ⟨b, off, e, hc⟩ := h.el hk
  exact ⟨b, off, e, fun i hi => ⟨hc i hi 0 _ rfl, hc i hi 1 _ rfl, hc i hi 2 _ rfl⟩⟩
/-- A new block of one era. -/
theorem rwR_one (w : World) (p : Nst Er) (T : TypeId) (c : Nat) (hc : 1 ≤ c ∧ c ≤ 9223372036854775807) : Rw 3 erCl (w.alloc (.cells #[.slice p.a p.m.nodes.length p.c, .bool p.m.closed, .int .i64 p.m.last] T)) (.slice (some ⟨w.heap.size, 0, none⟩) 1 c) [p] := by
  refine ⟨by simp, _, _, rfl, by simpa using hc, .inr ⟨w.heap.size, 0, rfl, fun i hi j u hu => ?_⟩⟩
  obtain rfl : i = 0 := by simp at hi; omega
  simp only [List.getElem_cons_zero, erCl, Sv] at hu
  simpa using hu
/-- How many nodes eras have. -/
def sumN (ms : List Er) : Nat := (ms.map fun e => e.nodes.length).sum
theorem sumN_take (ms : List Er) (k : Nat) (h : k < ms.length) : sumN (ms.take (k + 1)) = sumN (ms.take k) + ms[k].nodes.length := by
  unfold sumN
  rw [List.take_succ_eq_append_getElem h, List.map_append, List.sum_append, List.map_cons, List.map_nil, List.sum_cons, List.sum_nil, Nat.add_zero]
theorem sumN_le (ms : List Er) (k : Nat) : sumN (ms.take k) ≤ sumN ms := by
  unfold sumN
  conv => rhs; rw [← List.take_append_drop k ms, List.map_append, List.sum_append]
  exact Nat.le_add_right _ _
theorem sumN_mem {ms : List Er} {k : Nat} (h : k < ms.length) : ms[k].nodes.length ≤ sumN ms := by
  have h1 := sumN_take ms k h
  have h2 := sumN_le ms (k + 1)
  omega
def RdEraS (v : Value) (ms : List Er) (W : World) : Prop := RdK 3 Er.nodes erCl v ms W
def OwEraS (lo hi : Nat) (v : Value) (ms : List Er) (W : World) : Prop := OwK 3 Er.nodes erCl lo hi v ms W
def RdRegister (v : Value) (m : Rg) (W : World) : Prop := ∃ sv, v = .agg #[sv, .int .i64 m.trim] ∧ RdEraS sv m.eras W
def OwRegister (lo hi : Nat) (v : Value) (m : Rg) (W : World) : Prop := ∃ sv, v = .agg #[sv, .int .i64 m.trim] ∧ OwEraS lo hi sv m.eras W
def sizEraS (m : List Er) : Nat := m.length + sumN m
def sizRegister (m : Rg) : Nat := sizEraS m.eras
/-- How many marks an era takes. -/
def cntEraS (m : List Er) : Nat := sumN m + 2 * m.length
def cntRegister (m : Rg) : Nat := cntEraS m.eras
/-- A marked era. -/
def mkEr (k : Nat) (e : Er) : Er := ⟨marksN k e.nodes.length, ((k + e.nodes.length) % 3 == 0), ((k + e.nodes.length + 1 : Nat) : Int)⟩
def mkEraS : Nat → List Er → List Er
  | _, [] => []
  | k, e :: l => mkEr k e :: mkEraS (k + e.nodes.length + 2) l
def mkRegister (k : Nat) (m : Rg) : Rg := ⟨mkEraS k m.eras, m.trim⟩
theorem mkEraS_len : ∀ (k : Nat) (m : List Er), (mkEraS k m).length = m.length
  | _, [] => rfl
  | k, e :: l => by rw [mkEraS, List.length_cons, List.length_cons, mkEraS_len]
theorem cntEraS_cons (e : Er) (l : List Er) : cntEraS (e :: l) = e.nodes.length + 2 + cntEraS l := by
  simp only [cntEraS, sumN, List.map_cons, List.sum_cons, List.length_cons]
  omega
theorem mkEraS_at : ∀ (k : Nat) (m : List Er) (i : Nat) (h : i < m.length) (h' : i < (mkEraS k m).length), (mkEraS k m)[i] = mkEr (k + cntEraS (m.take i)) m[i]
  | _, [], i, h, _ => by simp at h
  | k, e :: l, 0, h, _ => by simp [mkEraS, cntEraS, sumN]
  | k, e :: l, i + 1, h, h' => by
    have ih := mkEraS_at (k + e.nodes.length + 2) l i (by simpa using h) (by rw [mkEraS_len]; simpa using h)
    simp only [mkEraS, List.getElem_cons_succ, List.take_succ_cons, cntEraS_cons]
    rw [ih]
    congr 1
    omega
theorem cntEraS_take (m : List Er) (k : Nat) (h : k < m.length) : cntEraS (m.take (k + 1)) = cntEraS (m.take k) + m[k].nodes.length + 2 := by
  have h1 := sumN_take m k h
  unfold cntEraS
  rw [h1, List.length_take, List.length_take]
  omega
theorem cntEraS_le' (m : List Er) (k : Nat) : cntEraS (m.take k) ≤ cntEraS m := by
  have h1 := sumN_le m k
  unfold cntEraS
  rw [List.length_take]
  omega
theorem OwRegister.rd {lo hi : Nat} {v : Value} {m : Rg} {W : World} (h : OwRegister lo hi v m W) : RdRegister v m W := by
  obtain ⟨sv, h1, h2⟩ := h
  exact ⟨sv, h1, OwK.rd h2⟩
theorem RdRegister.below {v : Value} {m : Rg} {W W' : World} (h : RdRegister v m W) (b : Below W.heap.size W W') : RdRegister v m W' := by
  obtain ⟨sv, h1, h2⟩ := h
  exact ⟨sv, h1, RdK.below h2 b⟩
theorem formRegister {v : Value} {m : Rg} {W : World} (h : RdRegister v m W) : ∃ a cap, v = .agg #[.slice a m.eras.length cap, .int .i64 m.trim] ∧ m.eras.length ≤ 9223372036854775807 := by
  obtain ⟨sv, rfl, h⟩ := h
  obtain ⟨a, cap, rfl, h0⟩ := formK h
  exact ⟨a, cap, rfl, h0⟩
theorem OwRegister.sits {lo hi : Nat} {w : World} {v : Value} {m : Rg} (h : OwRegister lo hi v m w) (hf : hi ≤ w.heap.size) : Sits (OwRegister lo hi v m) lo hi w := by
  obtain ⟨sv, h1, h2⟩ := h
  have s2 := OwK.sits h2 hf
  exact ⟨hf, fun W hW => ⟨sv, h1, s2.all W hW⟩⟩
theorem cntEraS_le {m : List Er} (h : sizEraS m ≤ 1048576) : cntEraS m ≤ 2097152 := by unfold sizEraS at h; unfold cntEraS; omega
theorem cntRegister_le {m : Rg} (h : sizRegister m ≤ 1048576) : cntRegister m ≤ 2097152 := cntEraS_le h
end Go.Proofs.YthndkkjgjhgdnaaGreatDoor
namespace Go.Proofs.YthndkkjgjhgdnaaGreatDoor
open Go.ChangeShapes Go.WideShapes Go.ChangeAt Go.RowKit
set_option linter.unusedVariables false
set_option maxRecDepth 100000
variable {H : Type} {enc : TypeId × Value → H} {W : World} {r : Reach} {b0 base : Nat} {held : Bool} {v : Value} {d : DataW H} {p : List MemPlace}

/-- An era of ints. -/
def fitEr (e : Er) : Prop := allInt e.nodes ∧ -9223372036854775808 ≤ e.last ∧ e.last ≤ 9223372036854775807
def okRegister (m : Rg) : Prop := (∀ e ∈ m.eras, fitEr e) ∧ -9223372036854775808 ≤ m.trim ∧ m.trim ≤ 9223372036854775807
def IsRegister (v : Value) (m : Rg) (w : World) : Prop := RdRegister v m w ∧ okRegister m
theorem era_cells {T : TypeId} {n : Nat} {cs : List Value} {x : DataW H × List MemPlace} {f0 f1 f2 : Field} (hu : Tryz.prog.underlying T = some (.struct #[f0, f1, f2])) (hC : Tryz.prog.cellsOf T = 3)
    (q0 : f0.type = 24 ∧ f0.offset = 0) (q1 : f1.type = 4 ∧ f1.offset = 1) (q2 : f2.type = 3 ∧ f2.offset = 2)
    (h : DataW.trod enc Tryz.prog W base (fun _ => true) held n T cs = some x) : ∃ e : Nst Er, cs = erCl e ∧ Ns W (Sv Er.nodes e) e.m.nodes ∧ fitEr e.m := by
  obtain ⟨y0, y1, y2, n', -, hl, h0, h1, h2⟩ := Go.Deep.trod_struct3 hu h
  rw [hC] at hl
  match cs, hl with
  | [c0, c1, c2], _ =>
    rw [q0.1, q0.2, show Tryz.prog.cellsOf 24 = 1 from by kernel_rfl] at h0
    rw [q1.1, q1.2, show Tryz.prog.cellsOf 4 = 1 from by kernel_rfl] at h1
    rw [q2.1, q2.2, show Tryz.prog.cellsOf 3 = 1 from by kernel_rfl] at h2
    obtain ⟨sv, bs, e0, k1, k2⟩ := ints_read h0
    obtain ⟨b1, e1, -⟩ := DataW.trod_bool Tryz.underlying4 h1
    obtain ⟨n2, e2, -, w2⟩ := DataW.trod_int Tryz.underlying3 h2
    simp at e0 e1 e2
    subst e0 e1 e2
    have k1' := k1
    obtain ⟨-, a, c, rfl, -, -⟩ := k1'
    exact ⟨⟨a, c, bs, b1, n2⟩, rfl, k1, k2, (bounds_i64 w2).1, (bounds_i64 w2).2⟩
end Go.Proofs.YthndkkjgjhgdnaaGreatDoor
namespace Go.Proofs.YthndkkjgjhgdnaaGreatDoor
open Go.ChangeShapes Go.WideShapes Go.ChangeAt Go.RowKit
set_option linter.unusedVariables false
set_option linter.unusedSimpArgs false
set_option maxRecDepth 100000

end Go.Proofs.YthndkkjgjhgdnaaGreatDoor
