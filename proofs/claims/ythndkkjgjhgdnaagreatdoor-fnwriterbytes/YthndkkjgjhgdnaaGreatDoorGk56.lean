/- Several texts in one: EvP, DrawB, DrawE. -/
import Derived.Test.YthndkkjgjhgdnaaGreatDoorGaA
import Derived.Laws.MakeOwn
import Derived.OwnWalk
import Derived.Test.YthndkkjgjhgdnaaGreatDoorGk69
import Derived.Laws.BytesArg
import Derived.Laws.IdiomStrings
namespace Go.Proofs.YthndkkjgjhgdnaaGreatDoor
open Go.ChangeShapes Go.WideShapes Go.ChangeAt Go.RowKit
set_option linter.unusedVariables false

section
variable {α : Type}
/-- The cells of an element, which may be written. -/
def ElZ (cl : α → List Value) (w : World) (b o : Nat) (e : α) : Prop := ∀ j u, (cl e)[j]? = some u → w.cell? ⟨b, o + j, none⟩ = some u ∧ w.frozen? ⟨b, o + j, none⟩ = false
/-- The elements f 0 .. f (n - 1) from the cell off on. -/
def RwZ (sz : Nat) (cl : α → List Value) (w : World) (b off n : Nat) (f : Nat → α) : Prop := ∀ i, i < n → ElZ cl w b (off + i * sz) (f i)
/-- One element is another. -/
def putZ (f : Nat → α) (k : Nat) (e : α) : Nat → α := fun i => if i = k then e else f i
variable {sz : Nat} {cl : α → List Value} {w w' : World} {b off n k base : Nat} {f : Nat → α}
theorem putZ_same (f : Nat → α) (k : Nat) (e : α) : putZ f k e k = e := if_pos rfl
theorem putZ_twice (f : Nat → α) (k : Nat) (e e' : α) : putZ (putZ f k e) k e' = putZ f k e' := by
  funext i
  unfold putZ
  split <;> rfl
theorem RwZ.below (h : RwZ sz cl w b off n f) (hb : Below w.heap.size w w') : RwZ sz cl w' b off n f := fun i hi j u hu =>
  ⟨(hb.cell (p := ⟨b, off + i * sz + j, none⟩) (dCell_lt (h i hi j u hu).1)).trans (h i hi j u hu).1, (hb.frozen (p := ⟨b, off + i * sz + j, none⟩) (dCell_lt (h i hi j u hu).1)).trans (h i hi j u hu).2⟩
theorem idx_ne {i k j j' sz : Nat} (h : i ≠ k) (hj : j < sz) (hj' : j' < sz) : i * sz + j' ≠ k * sz + j := by
  rcases Nat.lt_or_gt_of_ne h with h | h
  · have := Nat.mul_le_mul_right sz (show i + 1 ≤ k from h)
    rw [Nat.add_mul] at this
    omega
  · have := Nat.mul_le_mul_right sz (show k + 1 ≤ i from h)
    rw [Nat.add_mul] at this
    omega
theorem clG_lt (hcl : ∀ a, (cl a).length = sz) {e : α} {j : Nat} {u : Value} (h : (cl e)[j]? = some u) : j < sz := by
  rcases Nat.lt_or_ge j sz with h' | h'
  · exact h'
  · rw [List.getElem?_eq_none (by rw [hcl]; exact h')] at h
    cases h
/-- One cell of one element is written. -/
theorem RwZ.cell (hcl : ∀ a, (cl a).length = sz) (h : RwZ sz cl w b off n f) (hk : k < n) (j : Nat) (hj : j < sz) (u : Value) (e' : α) (he : cl e' = (cl (f k)).set j u) : RwZ sz cl (w.setCell ⟨b, off + k * sz + j, none⟩ u) b off n (putZ f k e') := fun i hi j' u' hu => by
  unfold putZ at hu
  split at hu
  · rename_i e
    subst e
    rw [he] at hu
    by_cases e : j' = j
    · subst e
      rw [List.getElem?_set_self (by rw [hcl]; exact hj)] at hu
      cases hu
      obtain ⟨h1, h2⟩ := h i hi j' _ (List.getElem?_eq_getElem (by rw [hcl]; exact hj))
      exact ⟨World.cell?_setCell_same _ _ _ h1, (World.frozen?_setCell _ _ _ _).trans h2⟩
    · rw [List.getElem?_set_ne (by omega)] at hu
      obtain ⟨h1, h2⟩ := h i hi j' _ hu
      exact ⟨set_other h1 (by omega), (World.frozen?_setCell _ _ _ _).trans h2⟩
  · rename_i e
    have hj' := clG_lt hcl hu
    have := idx_ne e hj hj'
    obtain ⟨h1, h2⟩ := h i hi j' _ hu
    exact ⟨set_other h1 (by omega), (World.frozen?_setCell _ _ _ _).trans h2⟩
/-- What is written so reads as a list. -/
theorem RwZ.own {cap : Nat} {es : List α} (h : RwZ sz cl w b off n f) (hn : n = es.length) (hf : ∀ i (hi : i < es.length), f i = es[i]) (hb : base ≤ b) (hl : es.length ≤ 9223372036854775807) (hc : es.length ≤ cap ∧ cap ≤ 9223372036854775807) : OwnRw sz cl w base (.slice (some ⟨b, off, none⟩) es.length cap) es := by
  refine ⟨hl, some ⟨b, off, none⟩, cap, rfl, hc, .inr ⟨b, off, rfl, hb, fun i hi j u hu => ?_⟩⟩
  subst hn
  exact h i hi j u (by rw [hf i hi]; exact hu)
/-- What is owned may be written so. -/
theorem OwnRw.rwZ {cap : Nat} {a : Option Addr} {es : List α} (z : α) (h : OwnRw sz cl w base (.slice a n cap) es) (hp : 0 < es.length) : ∃ b off, a = some ⟨b, off, none⟩ ∧ base ≤ b ∧ RwZ sz cl w b off es.length (fun i => es.getD i z) := by
  obtain ⟨-, a', cap', e, -, h⟩ := h
  cases e
  obtain ⟨b, off, rfl, hb, hc⟩ := orR_of_lt h hp
  refine ⟨b, off, rfl, hb, fun i hi j u hu => hc i hi j u ?_⟩
  dsimp only at hu
  rw [List.getD_eq_getElem?_getD, List.getElem?_eq_getElem hi] at hu
  exact hu
/-- The cells of one element of a slice that is read. -/
theorem Rw.elG {a : Option Addr} {cap : Nat} {es : List α} (h : Rw sz cl w (.slice a n cap) es) (hk : k < es.length) : ∃ b off, a = some ⟨b, off, none⟩ ∧ ∀ i (hi : i < es.length) j u, (cl es[i])[j]? = some u → w.cell? ⟨b, off + i * sz + j, none⟩ = some u := by
  obtain ⟨-, a', cap', e, -, h⟩ := h
  cases e
  exact orR_of_lt h hk
theorem OwnRw.ltZ {v : Value} {m : List α} (hcl : ∀ a, (cl a).length = sz) (hp : 0 < sz) (h : OwnRw sz cl w base v m) : m = [] ∨ blockOf v < w.heap.size := by
  obtain ⟨-, a, cap, rfl, -, h⟩ := h
  rcases h with h | ⟨b, off, rfl, hb, hc⟩
  · exact .inl h
  · rcases Nat.eq_zero_or_pos m.length with h1 | h1
    · exact .inl (List.length_eq_zero_iff.1 h1)
    · exact .inr (dCell_lt (hc 0 h1 0 _ (List.getElem?_eq_getElem (by rw [hcl]; exact hp))).1)
theorem OwnRw.geZ {v : Value} {m : List α} (h : OwnRw sz cl w base v m) : m = [] ∨ base ≤ blockOf v := by
  obtain ⟨-, a, cap, rfl, -, h⟩ := h
  rcases h with h | ⟨b, off, rfl, hb, hc⟩
  · exact .inl h
  · exact .inr hb
theorem OwnRw.farZ {b' o : Nat} {v : Value} {m : List α} (h : OwnRw sz cl w base v m) (hb : b' < base) (u : Value) : OwnRw sz cl (w.setCell ⟨b', o, none⟩ u) base v m := by
  obtain ⟨h0, a, cap, rfl, hcap, h⟩ := h
  refine ⟨h0, a, cap, rfl, hcap, ?_⟩
  rcases h with h | ⟨b', off, rfl, hb', hc⟩
  · exact .inl h
  · exact .inr ⟨b', off, rfl, hb', fun i hi j u' hu => ⟨set_other (hc i hi j u' hu).1 (.inl (by omega)), (World.frozen?_setCell _ _ _ _).trans (hc i hi j u' hu).2⟩⟩
/-- In a block of lo .. hi - 1. -/
def OwG (sz : Nat) (cl : α → List Value) (lo hi : Nat) (v : Value) (m : List α) (W : World) : Prop := OwnRw sz cl W lo v m ∧ (m = [] ∨ blockOf v < hi)
theorem OwG.sits {lo hi : Nat} {v : Value} {m : List α} (h : OwG sz cl lo hi v m w) (hf : hi ≤ w.heap.size) : Sits (OwG sz cl lo hi v m) lo hi w := by
  refine ⟨hf, fun W hW => ⟨?_, h.2⟩⟩
  obtain ⟨⟨h0, a, cap, rfl, hcap, h⟩, hl⟩ := h
  refine ⟨h0, a, cap, rfl, hcap, ?_⟩
  rcases hl with hl | hl
  · exact .inl hl
  · rcases h with h | ⟨b, off, rfl, hb, hc⟩
    · exact .inl h
    · have e := hW b hb hl
      exact .inr ⟨b, off, rfl, hb, fun i hi j u hu => ⟨(World.cell?_of_block (a := ⟨b, off + i * sz + j, none⟩) e).trans (hc i hi j u hu).1, (World.frozen?_of_block (a := ⟨b, off + i * sz + j, none⟩) e).trans (hc i hi j u hu).2⟩⟩
theorem OwG.wide {lo hi lo' hi' : Nat} {v : Value} {m : List α} (h : OwG sz cl lo hi v m w) (h1 : lo' ≤ lo) (h2 : hi ≤ hi') : OwG sz cl lo' hi' v m w := ⟨h.1.mono h1, h.2.elim .inl fun h => .inr (by omega)⟩
/-- Zero elements. -/
theorem RwZ.made {T : TypeId} (z : Value) (e : α) (hz : z.cells.toList = cl e) (hcl : ∀ a, (cl a).length = sz) (w : World) (n : Nat) : RwZ sz cl (w.alloc (.cells (madeCells z.cells (n * sz)) T)) w.heap.size 0 n (fun _ => e) := fun i hi j u hu => by
  have hj := clG_lt hcl hu
  have hm := MapKept.heap_alloc w (.cells (madeCells z.cells (n * sz)) T)
  have hs : z.cells.size = sz := by rw [← Array.length_toList, hz, hcl]
  have hlt : i * sz + j < n * sz := by
    have := Nat.mul_le_mul_right sz (show i + 1 ≤ n from hi)
    rw [Nat.add_mul] at this
    omega
  refine ⟨?_, ?_⟩
  · simp only [World.cell?, hm.1]
    rw [Nat.zero_add]
    have hu' : z.cells[j]? = some u := by rw [← Array.getElem?_toList, hz]; exact hu
    have h1 : (i * sz + j) % sz = j := by rw [Nat.mul_comm, Nat.mul_add_mod, Nat.mod_eq_of_lt hj]
    simp [madeCells, hlt, hs, h1, hu', getElem!_def]
  · simp only [World.frozen?, hm.1]
    simp
end
end Go.Proofs.YthndkkjgjhgdnaaGreatDoor
namespace Go.Proofs.YthndkkjgjhgdnaaGreatDoor
open Go.ChangeShapes Go.WideShapes Go.ChangeAt Go.RowKit
set_option linter.unusedVariables false

set_option maxHeartbeats 400000 in
theorem l1PickInt_any (bk b off cap : Nat) (vs : List Int) (w : World) (h1 : 1 ≤ vs.length) (h2 : vs.length ≤ 1000000) (hv : ∀ i (h : i < vs.length), w.cell? ⟨b, off + i, none⟩ = some (.int .i64 vs[i])) (hb : b ≠ bk) (hc : Cur w bk) :
    Calls Tryz.prog 64 #[.pointer (some ⟨bk, 0, none⟩), .slice (some ⟨b, off, none⟩) vs.length cap] w fun e w' => (∃ v, v ∈ vs ∧ e = .returned (.int .i64 v)) ∧ Cur w' bk ∧ Drawn bk w w' := by
  have HV := dHide hv
  clear hv
  go_enter Tryz.func64, Tryz.ntmps64
  go_wp2_with fail
  refine (l1Below_any bk vs.length h1 (by omega) w hc).mono ?_
  rintro e w1 ⟨⟨x, hx, rfl⟩, hc1, hd1⟩
  have hcell := hd1.cell (dUnhide HV x hx) hb
  have hm := List.getElem_mem hx
  generalize vs[x] = v at *
  go_wp2
  go_ret
  exact ⟨⟨v, hm, rfl⟩, hc1, hd1⟩
theorem l1Once_any (bk n : Nat) (h1 : 1 ≤ n) (h2 : n ≤ 1000000) (w : World) (hc : Cur w bk) :
    Calls Tryz.prog 58 #[.pointer (some ⟨bk, 0, none⟩), .int .i64 n] w fun e w' => (∃ b : Bool, e = .returned (.bool b)) ∧ Cur w' bk ∧ Drawn bk w w' := by
  go_enter Tryz.func58, Tryz.ntmps58
  go_wp2_with fail
  refine (l1Below_any bk n h1 (by omega) w hc).mono ?_
  rintro e w1 ⟨⟨x, hx, rfl⟩, hc1, hd1⟩
  go_wp2
  go_ret
  exact ⟨⟨_, rfl⟩, hc1, hd1⟩
theorem l1Place_in (a b : Int) (h1 : 0 ≤ a) (h2 : a ≤ 1000) (h3 : 0 ≤ b) (h4 : b ≤ 1000) (w : World) :
    Calls Tryz.prog 63 #[.int .i64 a, .int .i64 b] w fun e w' => e = .returned (.int .i64 (4294967296 * a + b)) ∧ w = w' := by
  go_enter Tryz.func63, Tryz.ntmps63
  go_wp2
  go_ret
  exact ⟨rfl, rfl⟩
/-- A number that an int holds. -/
def I64 (x : Int) : Prop := -9223372036854775808 ≤ x ∧ x ≤ 9223372036854775807
/-- Behind a new block of numbers: what l1PickInt wants. -/
theorem pick_new {bk : Nat} {w : World} (hc : Cur w bk) (vs : List Int) (T : TypeId) (h1 : 1 ≤ vs.length) (h2 : vs.length ≤ 1000000) (cap : Nat) :
    Calls Tryz.prog 64 #[.pointer (some ⟨bk, 0, none⟩), .slice (some ⟨w.heap.size, 0, none⟩) vs.length cap] (w.alloc (.cells (vs.map (Value.int .i64)).toArray T)) fun e w' => (∃ v, v ∈ vs ∧ e = .returned (.int .i64 v)) ∧ Cur w' bk ∧ Drawn bk w w' := by
  have hb : Below w.heap.size w (w.alloc (.cells (vs.map (Value.int .i64)).toArray T)) := (Below.refl _ _).alloc (Nat.le_refl _) _
  have hlt := hc.lt
  refine (l1PickInt_any bk w.heap.size 0 cap vs _ h1 h2 (fun i h => ?_) (by omega) (hc.below hb)).mono fun e w' ⟨h, k, d⟩ => ⟨h, k, (Drawn.of_below hb).trans d⟩
  simp
set_option maxHeartbeats 1000000 in
theorem l1DrawPlace_any (bk : Nat) (w : World) (hc : Cur w bk) :
    Calls Tryz.prog 81 #[.pointer (some ⟨bk, 0, none⟩)] w fun e w' => (∃ x, I64 x ∧ e = .returned (.int .i64 x)) ∧ Cur w' bk ∧ Drawn bk w w' := by
  go_enter Tryz.func81, Tryz.ntmps81
  go_wp2_with fail
  refine (l1Below_any bk 3 (by omega) (by omega) w hc).mono ?_
  rintro e w1 ⟨⟨x, hx, rfl⟩, hc1, hd1⟩
  go_wp2_with fail
  refine (l1Below_any bk 6 (by omega) (by omega) w1 hc1).mono ?_
  rintro e w2 ⟨⟨y, hy, rfl⟩, hc2, hd2⟩
  go_wp2_with (go_at_call 63; refine (l1Place_in _ _ (by omega) (by omega) (by omega) (by omega) _).mono ?_; rintro e w3 ⟨rfl, rfl⟩)
  refine (l1Below_any bk 15 (by omega) (by omega) w2 hc2).mono ?_
  rintro e w3 ⟨⟨z, hz, rfl⟩, hc3, hd3⟩
  have hd := (hd1.trans hd2).trans hd3
  clear hc hc1 hc2 hd1 hd2 hd3
  by_cases z0 : ((z : Int) == 0) = true
  · go_wp2_with fail
    refine (pick_new hc3 [0, -1, 4294967296, 4294967297, 9223372036854775807, -9223372036854775808] _ (by simp) (by simp) _).mono ?_
    rintro e w4 ⟨⟨v, hv, rfl⟩, hc4, hd4⟩
    have hI : I64 v := by
      simp only [List.mem_cons, List.mem_nil_iff, or_false] at hv
      unfold I64; omega
    clear hv
    go_wp2
    go_ret
    exact ⟨⟨v, hI, rfl⟩, hc4, hd.trans hd4⟩
  · have z0' : ((z : Int) == 0) = false := by simpa using z0
    clear z0
    by_cases z1 : ((z : Int) == 1) = true
    · go_wp2_with fail
      refine (pick_new hc3 [0, 30, 31] _ (by simp) (by simp) _).mono ?_
      rintro e w4 ⟨⟨v, hv, rfl⟩, hc4, hd4⟩
      have hv0 : 0 ≤ v ∧ v ≤ 100 := by
        simp only [List.mem_cons, List.mem_nil_iff, or_false] at hv
        omega
      clear hv
      go_wp2_with fail
      refine (pick_new hc4 [0, 60, 61] _ (by simp) (by simp) _).mono ?_
      rintro e w5 ⟨⟨u, hu, rfl⟩, hc5, hd5⟩
      have hu0 : 0 ≤ u ∧ u ≤ 100 := by
        simp only [List.mem_cons, List.mem_nil_iff, or_false] at hu
        omega
      clear hu
      go_wp2_with (go_at_call 63; refine (l1Place_in _ _ (by omega) (by omega) (by omega) (by omega) _).mono ?_; rintro e w6 ⟨rfl, rfl⟩)
      go_ret
      exact ⟨⟨_, by unfold I64; omega, rfl⟩, hc5, (hd.trans hd4).trans hd5⟩
    · have z1' : ((z : Int) == 1) = false := by simpa using z1
      clear z1
      go_wp2
      go_ret
      exact ⟨⟨_, by unfold I64; omega, rfl⟩, hc3, hd⟩
end Go.Proofs.YthndkkjgjhgdnaaGreatDoor
namespace Go.Proofs.YthndkkjgjhgdnaaGreatDoor
open Go.ChangeShapes Go.WideShapes Go.ChangeAt Go.RowKit
set_option linter.unusedVariables false

theorem byte_of (x : Int) (h0 : 0 ≤ x) (h1 : x ≤ 255) : ((UInt8.ofNat x.toNat).toNat : Int) = x := by simp; omega
theorem conv_own {w : World} {base : Nat} {v : Value} {bs : List UInt8} (h : w.ownsRow base 5 1 v bs.length (bcells bs)) : (convert 22 9 v).run Tryz.prog w = .ok (.string ⟨bs.toArray⟩) w := by
  rcases h.2 with ⟨rfl, hn⟩ | ⟨g, cap, cur, rfl, hb, hg, hnc, hcm, hsz, ht⟩
  · have : bs = [] := List.length_eq_zero_iff.1 hn
    subst this
    exact run_convert_bytes_nil w 22 5 Tryz.underlying22 Tryz.underlying5 0 0 9 Tryz.underlying9
  · refine run_convert_bytes_back (P := Tryz.prog) w 22 9 5 ⟨g, 0, none⟩ cap bs Tryz.underlying22 Tryz.underlying5 Tryz.underlying9 (fun j hj => ?_)
    exact h.cells rfl j _ (by simp [bcells, hj])
end Go.Proofs.YthndkkjgjhgdnaaGreatDoor
