/- Several texts in one: BytesEq, BytesTo, BytesMk, SitY. -/
import Derived.Test.YtioocibgfhgkhaaGreatDoorGaA
import Derived.Laws.MakeOwn
import Derived.OwnWalk
namespace Go.Proofs.YtioocibgfhgkhaaGreatDoor
open Go.ChangeShapes Go.WideShapes Go.ChangeAt Go.RowKit
set_option linter.unusedVariables false

theorem take_step (l m : List UInt8) (k : Nat) (h : k < l.length) (h' : k < m.length) (ht : l.take k = m.take k) (he : l[k] = m[k]) : l.take (k + 1) = m.take (k + 1) := by
  rw [List.take_succ_eq_append_getElem h, List.take_succ_eq_append_getElem h', ht, he]
theorem u8_ne {a b : UInt8} (h : ((a.toNat : Int) == (b.toNat : Int)) = false) : a ≠ b := by
  rintro rfl; simp at h
set_option maxHeartbeats 1000000 in
theorem eqByteS_yes (v : Value) (u : Value) (bs : List UInt8) (w : World) (hv : Bs w v bs) (hu : Bs w u bs) :
    Calls Tryz.prog 12 #[v, u] w fun e w' => e = .returned (.bool true) ∧ Below w.heap.size w w' := by
  obtain ⟨h0, a, cap, rfl, -, hv⟩ := hv
  obtain ⟨-, a', cap', rfl, -, hu⟩ := hu
  have HV := dHide hv
  have HU := dHide hu
  clear hv hu
  go_enter Tryz.func12, Tryz.ntmps12
  go_wp2
  go_loopw [5] (fun x w' => ∃ k : Nat, x = .int .i64 (k : Int) ∧ k ≤ bs.length ∧ ∃ n, w' = w.drewN n) (fun x _ => bs.length - (intOf x).toNat)
  case atStart => exact ⟨0, rfl, Nat.zero_le _, 0, rfl⟩
  case round =>
    obtain ⟨k, rfl, hk, n, rfl⟩ := hrel
    by_cases hlt : (k : Int) < (bs.length : Int)
    · obtain ⟨b, off, rfl, hc⟩ : ∃ b off, a = some ⟨b, off, none⟩ ∧ ∀ i (h : i < bs.length), w.cell? ⟨b, off + i, none⟩ = some (.int .u8 (bs[i].toNat : Int)) := by
        exact or_of_lt (dUnhide HV) (k := k) (by omega)
      obtain ⟨b', off', rfl, hc'⟩ : ∃ b off, a' = some ⟨b, off, none⟩ ∧ ∀ i (h : i < bs.length), w.cell? ⟨b, off + i, none⟩ = some (.int .u8 (bs[i].toNat : Int)) := by
        exact or_of_lt (dUnhide HU) (k := k) (by omega)
      have c1 := hc k (by omega)
      have c2 := hc' k (by omega)
      generalize bs[k] = x at *
      clear hc hc' HV HU
      go_wp2
      go_quiet (fail)
      go_wp2
      go_roundw
      case rel => exact ⟨k + 1, by go_num, by omega, _, by first | rfl | (simp only [World.drewN_drewN]; rfl)⟩
      case measure => simp [intOf]; omega
    · go_wp2
      go_ret
      exact ⟨rfl, below_drewN (Below.refl _ _) _⟩
end Go.Proofs.YtioocibgfhgkhaaGreatDoor
namespace Go.Proofs.YtioocibgfhgkhaaGreatDoor
open Go.ChangeShapes Go.WideShapes Go.ChangeAt Go.RowKit
set_option linter.unusedVariables false

theorem info8 : (Tryz.prog.info? 5).map (fun i => (i.zero, i.size, i.bytes)) = some (some (.int .u8 0), 1, 1) := by kernel_rfl
/-- n noughts. -/
def zeros8 (n : Nat) : Array Value := madeCells (Value.int .u8 0).cells n
theorem zeros8_size (n : Nat) : (zeros8 n).size = n := by simp [zeros8, size_madeCells]
theorem zeros8_at (n i : Nat) (h : i < n) : (zeros8 n)[i]? = some (.int .u8 0) := by
  simp [zeros8, madeCells, h, Nat.mod_one, Value.cells]
theorem make8 (n : Nat) (h : n ≤ 1099511627776) (w : World) : (Instr.makeSlice 25 (.int .i64 (n : Int)) (.int .i64 (n : Int))).run Tryz.prog w = .ok (.slice (some ⟨w.heap.size, 0, none⟩) n n) (w.alloc (.cells (zeros8 n) 5)) := by
  obtain ⟨i0, hi, hz0, hz1, hz2⟩ := info_parts info8
  have := run_make (P := Tryz.prog) w 25 5 i0 (.int .u8 0) Tryz.underlying25 hi hz0 .i64 .i64 (n : Int) (n : Int) (by omega) (by omega) (by rw [hz2]; omega) (by omega)
  rw [hz1] at this
  simpa [zeros8] using this
/-- Where toByteS stands: k bytes are copied into block g. -/
def CopyInv (w wr : World) (g k : Nat) (bs : List UInt8) : Prop :=
  (∀ i (h : i < bs.length), ∃ c : Int, wr.cell? ⟨g, i, none⟩ = some (.int .u8 c) ∧ (i < k → c = (bs[i].toNat : Int)) ∧ wr.frozen? ⟨g, i, none⟩ = false) ∧ k ≤ bs.length ∧ Below w.heap.size w wr ∧ w.heap.size ≤ g ∧ g < wr.heap.size
theorem CopyInv.start {w : World} {bs : List UInt8} : CopyInv w (w.alloc (.cells (zeros8 bs.length) 5)) w.heap.size 0 bs := by
  refine ⟨fun i hi => ⟨0, ?_, fun h => by omega, ?_⟩, Nat.zero_le _, (Below.refl _ _).alloc (Nat.le_refl _) _, Nat.le_refl _, by simp⟩
  · have := MapKept.heap_alloc w (.cells (zeros8 bs.length) 5)
    simp only [World.cell?, this.1]
    exact zeros8_at _ _ hi
  · have := MapKept.heap_alloc w (.cells (zeros8 bs.length) 5)
    simp only [World.frozen?, this.1]
    simp
theorem CopyInv.now {w wr : World} {g k : Nat} {bs : List UInt8} (h : Hid (CopyInv w wr g k bs)) (hk : k < bs.length) : (∃ c : Int, wr.cell? ⟨g, k, none⟩ = some (.int .u8 c)) ∧ wr.frozen? ⟨g, k, none⟩ = false := by
  obtain ⟨c, h1, -, h3⟩ := h.1 k hk
  exact ⟨⟨c, h1⟩, h3⟩
theorem CopyInv.step {w wr : World} {g k : Nat} {bs : List UInt8} (h : Hid (CopyInv w wr g k bs)) (hk : k < bs.length) {x : Int} (hx : x = (bs[k].toNat : Int)) : CopyInv w (wr.setCell ⟨g, k, none⟩ (.int .u8 x)) g (k + 1) bs := by
  obtain ⟨h1, h2, h3, h4, h5⟩ := h
  refine ⟨fun i hi => ?_, hk, h3.setCell h4 _, h4, by simpa using h5⟩
  obtain ⟨c, c1, c2, c3⟩ := h1 i hi
  by_cases e : i = k
  · subst e
    exact ⟨x, World.cell?_setCell_same _ _ _ c1, fun _ => hx, (World.frozen?_setCell _ _ _ _).trans c3⟩
  · exact ⟨c, set_other c1 (by omega), fun hi' => c2 (by omega), (World.frozen?_setCell _ _ _ _).trans c3⟩
theorem CopyInv.done {w wr : World} {g : Nat} {bs : List UInt8} (h : Hid (CopyInv w wr g bs.length bs)) (h0 : bs.length ≤ 9223372036854775807) : OwnB wr w.heap.size (.slice (some ⟨g, 0, none⟩) bs.length bs.length) bs := by
  obtain ⟨h1, h2, h3, h4, h5⟩ := h
  refine ⟨h0, some ⟨g, 0, none⟩, _, rfl, ⟨Nat.le_refl _, h0⟩, .inr ⟨g, 0, rfl, h4, fun i hi => ?_⟩⟩
  obtain ⟨c, c1, c2, c3⟩ := h1 i hi
  rw [← c2 hi, Nat.zero_add]
  exact ⟨c1, c3⟩
set_option maxHeartbeats 1000000 in
theorem toByteS_any (v : Value) (bs : List UInt8) (w : World) (hl : bs.length ≤ 1099511627776) (hv : Bs w v bs) :
    Calls Tryz.prog 8 #[v] w fun e w' => (∃ u, e = .returned u ∧ OwnB w' w.heap.size u bs) ∧ Below w.heap.size w w' := by
  obtain ⟨h0, a, cap, rfl, -, hv⟩ := hv
  have HV := dHide hv
  have hmk := make8 bs.length hl
  clear hv
  go_enter Tryz.func8, Tryz.ntmps8
  go_wp2
  go_loopw [4] (fun x wr => ∃ k : Nat, x = .int .i64 (k : Int) ∧ k ≤ bs.length ∧ Hid (CopyInv w wr w.heap.size k bs)) (fun x _ => bs.length - (intOf x).toNat)
  case atStart => exact ⟨0, rfl, Nat.zero_le _, CopyInv.start⟩
  case round =>
    obtain ⟨k, rfl, hk, hinv⟩ := hrel
    by_cases hlt : (k : Int) < (bs.length : Int)
    · obtain ⟨b, off, rfl, hc⟩ : ∃ b off, a = some ⟨b, off, none⟩ ∧ ∀ i (h : i < bs.length), w.cell? ⟨b, off + i, none⟩ = some (.int .u8 (bs[i].toNat : Int)) :=
        or_of_lt (dUnhide HV) (k := k) (by omega)
      have c0 := hc k (by omega)
      have c1 : wr.cell? ⟨b, off + k, none⟩ = some (.int .u8 (bs[k].toNat : Int)) := ((dUnhide hinv).2.2.1.cell (p := ⟨b, off + k, none⟩) (dCell_lt c0)).trans c0
      have hst : Hid (∀ x, x = (bs[k].toNat : Int) → CopyInv w (wr.setCell ⟨w.heap.size, k, none⟩ (.int .u8 x)) w.heap.size (k + 1) bs) := fun x hx => CopyInv.step hinv (by omega) hx
      obtain ⟨⟨c, c2⟩, f2⟩ := CopyInv.now hinv (show k < bs.length by omega)
      generalize bs[k] = y at *
      clear hc HV c0 hinv
      go_wp2
      go_roundw
      case rel => exact ⟨k + 1, by go_num, by omega, dUnhide hst _ rfl⟩
      case measure => simp [intOf]; omega
    · obtain rfl : k = bs.length := by omega
      go_wp2
      go_ret
      exact ⟨⟨_, rfl, CopyInv.done hinv h0⟩, (dUnhide hinv).2.2.1⟩
end Go.Proofs.YtioocibgfhgkhaaGreatDoor
namespace Go.Proofs.YtioocibgfhgkhaaGreatDoor
open Go.ChangeShapes Go.WideShapes Go.ChangeAt Go.RowKit
set_option linter.unusedVariables false

/-- The marks from k on, n of them. -/
def marks (k n : Nat) : List UInt8 := (List.range n).map fun i => UInt8.ofNat (k + i)
theorem marks_len (k n : Nat) : (marks k n).length = n := by simp [marks]
theorem marks_at (k n i : Nat) (h : i < (marks k n).length) : (marks k n)[i] = UInt8.ofNat (k + i) := by simp [marks]
theorem mark_num (k : Nat) : ((UInt8.ofNat k).toNat : Int) = (k : Int) % 256 := by simp
theorem wrap_u8_nat (k : Int) : IntKind.u8.wrap k = k % 256 := by rw [IntKind.wrap_u8]
/-- Where markByteS stands: behind k marks. -/
def MarkInv (w wr : World) (b off k0 k : Nat) (bs : List UInt8) : Prop :=
  (∀ i, i < bs.length → ∃ c : Int, wr.cell? ⟨b, off + i, none⟩ = some (.int .u8 c) ∧ (i < k → c = ((k0 + i : Nat) : Int) % 256) ∧ wr.frozen? ⟨b, off + i, none⟩ = false) ∧ k ≤ bs.length ∧ Drawn b w wr ∧ (k = 0 → wr = w)
theorem MarkInv.start {w : World} {b off k0 : Nat} {bs : List UInt8} (hc : Hid (∀ i (h : i < bs.length), w.cell? ⟨b, off + i, none⟩ = some (.int .u8 (bs[i].toNat : Int)) ∧ w.frozen? ⟨b, off + i, none⟩ = false)) : MarkInv w w b off k0 0 bs :=
  ⟨fun i hi => ⟨_, (hc i hi).1, fun h => by omega, (hc i hi).2⟩, Nat.zero_le _, Drawn.refl _ _, fun _ => rfl⟩
theorem MarkInv.now {w wr : World} {b off k0 k : Nat} {bs : List UInt8} (h : Hid (MarkInv w wr b off k0 k bs)) (hk : k < bs.length) : (∃ c : Int, wr.cell? ⟨b, off + k, none⟩ = some (.int .u8 c)) ∧ wr.frozen? ⟨b, off + k, none⟩ = false := by
  obtain ⟨c, h1, -, h3⟩ := h.1 k hk
  exact ⟨⟨c, h1⟩, h3⟩
theorem MarkInv.step {w wr : World} {b off k0 k : Nat} {bs : List UInt8} (h : Hid (MarkInv w wr b off k0 k bs)) (hk : k < bs.length) {x : Int} (hx : x = ((k0 + k : Nat) : Int) % 256) : MarkInv w (wr.setCell ⟨b, off + k, none⟩ (.int .u8 x)) b off k0 (k + 1) bs := by
  obtain ⟨h1, h2, h3, -⟩ := h
  refine ⟨fun i hi => ?_, hk, h3.setCell _ _, fun h => by omega⟩
  obtain ⟨c, c1, c2, c3⟩ := h1 i hi
  by_cases e : i = k
  · subst e
    exact ⟨x, World.cell?_setCell_same _ _ _ c1, fun _ => hx, (World.frozen?_setCell _ _ _ _).trans c3⟩
  · exact ⟨c, set_other c1 (by omega), fun hi' => c2 (by omega), (World.frozen?_setCell _ _ _ _).trans c3⟩
theorem MarkInv.done {w wr : World} {b off k0 cap base : Nat} {bs : List UInt8} (h : Hid (MarkInv w wr b off k0 bs.length bs)) (h0 : bs.length ≤ 9223372036854775807) (hcap : bs.length ≤ cap ∧ cap ≤ 9223372036854775807) (hb : base ≤ b) : OwnB wr base (.slice (some ⟨b, off, none⟩) bs.length cap) (marks k0 bs.length) := by
  obtain ⟨h1, h2, h3, -⟩ := h
  refine ⟨by rw [marks_len]; exact h0, some ⟨b, off, none⟩, cap, by rw [marks_len], by rw [marks_len]; exact hcap, .inr ⟨b, off, rfl, hb, fun i hi => ?_⟩⟩
  have hi' : i < bs.length := by simpa [marks_len] using hi
  obtain ⟨c, c1, c2, c3⟩ := h1 i hi'
  rw [marks_at, mark_num, ← c2 hi']
  exact ⟨c1, c3⟩
set_option maxHeartbeats 1000000 in
theorem markByteS_any (v : Value) (base k0 : Nat) (bs : List UInt8) (w : World) (hk0 : k0 ≤ 4294967296) (hl : bs.length ≤ 4294967296) (hv : OwnB w base v bs) :
    Calls Tryz.prog 14 #[v, .int .i64 (k0 : Int)] w fun e w' => e = .returned (.int .i64 ((k0 + bs.length : Nat) : Int)) ∧ OwnB w' base v (marks k0 bs.length) ∧ Drawn (blockOf v) w w' ∧ (bs = [] → w' = w) := by
  obtain ⟨h0, a, cap, rfl, hcap, hv⟩ := hv
  rcases hv with rfl | ⟨b, off, rfl, hb, hc⟩
  · go_enter Tryz.func14, Tryz.ntmps14
    go_wp2
    go_rounds 1
    go_ret
    exact ⟨rfl, ⟨by simp [marks], a, cap, rfl, hcap, .inl rfl⟩, Drawn.refl _ _, fun _ => rfl⟩
  · have HC := dHide hc
    clear hc
    go_enter Tryz.func14, Tryz.ntmps14
    go_wp2
    go_loopw [5, 1] (fun x y wr => ∃ k : Nat, x = .int .i64 (k : Int) ∧ y = .int .i64 ((k0 + k : Nat) : Int) ∧ k ≤ bs.length ∧ Hid (MarkInv w wr b off k0 k bs)) (fun x _ _ => bs.length - (intOf x).toNat)
    case atStart => exact ⟨0, rfl, by go_num, Nat.zero_le _, MarkInv.start HC⟩
    case round =>
      obtain ⟨k, rfl, rfl, hk, hinv⟩ := hrel
      by_cases hlt : (k : Int) < (bs.length : Int)
      · obtain ⟨⟨c, c1⟩, f1⟩ := MarkInv.now hinv (show k < bs.length by omega)
        go_wp2
        go_roundw
        case rel => exact ⟨k + 1, by go_num, by go_num, by omega, MarkInv.step hinv (by omega) (by first | rfl | (rw [IntKind.wrap_u8]; go_num))⟩
        case measure => simp [intOf]; omega
      · obtain rfl : k = bs.length := by omega
        go_wp2
        go_ret
        exact ⟨by go_num, MarkInv.done hinv h0 hcap hb, (dUnhide hinv).2.2.1, fun h => (dUnhide hinv).2.2.2 (by rw [h]; rfl)⟩
end Go.Proofs.YtioocibgfhgkhaaGreatDoor
namespace Go.Proofs.YtioocibgfhgkhaaGreatDoor
open Go.ChangeShapes Go.WideShapes Go.ChangeAt Go.RowKit
set_option linter.unusedVariables false

/-- The slice v reads as xs, lies in a block of lo .. hi - 1, and may be written. -/
def OwB (lo hi : Nat) (v : Value) (xs : List UInt8) (W : World) : Prop := OwnB W lo v xs ∧ (xs = [] ∨ blockOf v < hi)
theorem OwB.rd {lo hi : Nat} {v : Value} {xs : List UInt8} {W : World} (h : OwB lo hi v xs W) : Bs W v xs := h.1.bs
theorem Bs.ltS {w : World} {v : Value} {xs : List UInt8} (h : Bs w v xs) : xs = [] ∨ blockOf v < w.heap.size := by
  obtain ⟨-, a, cap, rfl, -, h⟩ := h
  rcases h with h | ⟨b, off, rfl, hc⟩
  · exact .inl h
  · rcases Nat.eq_zero_or_pos xs.length with h1 | h1
    · exact .inl (List.length_eq_zero_iff.1 h1)
    · exact .inr (dCell_lt (hc 0 h1))
theorem OwnB.geS {w : World} {base : Nat} {v : Value} {xs : List UInt8} (h : OwnB w base v xs) : xs = [] ∨ base ≤ blockOf v := by
  obtain ⟨-, a, cap, rfl, -, h⟩ := h
  rcases h with h | ⟨b, off, rfl, hb, hc⟩
  · exact .inl h
  · exact .inr hb
theorem Bs.sitsS {w : World} {v : Value} {xs : List UInt8} (h : Bs w v xs) : Sits (fun W => Bs W v xs) 0 w.heap.size w := by
  refine ⟨Nat.le_refl _, fun W hW => ?_⟩
  obtain ⟨h0, a, cap, rfl, hcap, h⟩ := h
  refine ⟨h0, a, cap, rfl, hcap, ?_⟩
  rcases h with h | ⟨b, off, rfl, hc⟩
  · exact .inl h
  · exact .inr ⟨b, off, rfl, fun i hi => (World.cell?_of_block (a := ⟨b, off + i, none⟩) (hW b (Nat.zero_le _) (dCell_lt (hc i hi)))).trans (hc i hi)⟩
theorem OwB.sits {lo hi : Nat} {w : World} {v : Value} {xs : List UInt8} (h : OwB lo hi v xs w) (hf : hi ≤ w.heap.size) : Sits (OwB lo hi v xs) lo hi w := by
  refine ⟨hf, fun W hW => ⟨?_, h.2⟩⟩
  obtain ⟨⟨h0, a, cap, rfl, hcap, h⟩, hl⟩ := h
  refine ⟨h0, a, cap, rfl, hcap, ?_⟩
  rcases hl with hl | hl
  · exact .inl hl
  · rcases h with h | ⟨b, off, rfl, hb, hc⟩
    · exact .inl h
    · have e := hW b hb hl
      exact .inr ⟨b, off, rfl, hb, fun i hi => ⟨(World.cell?_of_block (a := ⟨b, off + i, none⟩) e).trans (hc i hi).1, (World.frozen?_of_block (a := ⟨b, off + i, none⟩) e).trans (hc i hi).2⟩⟩
theorem OwnB.sits {w : World} {base : Nat} {v : Value} {xs : List UInt8} (h : OwnB w base v xs) : Sits (OwB base w.heap.size v xs) base w.heap.size w := OwB.sits ⟨h, h.bs.ltS⟩ (Nat.le_refl _)
theorem toB (v : Value) (xs : List UInt8) (w : World) (hl : xs.length ≤ 1099511627776) (h : Bs w v xs) :
    Calls Tryz.prog 8 #[v] w fun e w' => ∃ u, e = .returned u ∧ Sits (OwB w.heap.size w'.heap.size u xs) w.heap.size w'.heap.size w' ∧ Below w.heap.size w w' :=
  (toByteS_any v xs w hl h).mono fun e w' ⟨⟨u, h1, h2⟩, h3⟩ => ⟨u, h1, h2.sits, h3⟩
theorem markB (lo hi : Nat) (v : Value) (xs : List UInt8) (k0 : Nat) (w : World) (hk : k0 ≤ 4294967296) (hl : xs.length ≤ 4294967296) (h : Sits (OwB lo hi v xs) lo hi w) :
    Calls Tryz.prog 14 #[v, .int .i64 (k0 : Int)] w fun e w' => e = .returned (.int .i64 ((k0 + xs.length : Nat) : Int)) ∧ Sits (OwB lo hi v (marks k0 xs.length)) lo hi w' ∧ Wr lo hi w w' := by
  have hn := h.now
  refine (markByteS_any v lo k0 xs w hk hl hn.1).mono fun e w' ⟨h1, h2, h3, h4⟩ => ⟨h1, ?_, ?_⟩
  · refine OwB.sits ⟨h2, ?_⟩ (Nat.le_trans h.fit h3.size)
    rcases hn.2 with h | h
    · left
      rw [h]; rfl
    · exact .inr h
  · rcases hn.2 with h | h
    · rw [h4 h]; exact Wr.refl _ _ _
    · rcases hn.1.geS with h' | h'
      · rw [h4 h']; exact Wr.refl _ _ _
      · exact Wr.of_drawn h3 h' h
def RdByteS (v : Value) (m : List UInt8) (W : World) : Prop := Bs W v m
def OwByteS (lo hi : Nat) (v : Value) (m : List UInt8) (W : World) : Prop := OwB lo hi v m W
def sizByteS (m : List UInt8) : Nat := m.length
def cntByteS (m : List UInt8) : Nat := m.length
def mkByteS (k : Nat) (m : List UInt8) : List UInt8 := marks k m.length
theorem OwByteS.rd {lo hi : Nat} {v : Value} {m : List UInt8} {W : World} (h : OwByteS lo hi v m W) : RdByteS v m W := OwB.rd h
theorem RdByteS.below {v : Value} {m : List UInt8} {W W' : World} (h : RdByteS v m W) (b : Below W.heap.size W W') : RdByteS v m W' := Bs.below h b
theorem formByteS {v : Value} {m : List UInt8} {W : World} (h : RdByteS v m W) : ∃ a cap, v = .slice a m.length cap ∧ m.length ≤ 9223372036854775807 := by
  obtain ⟨h0, a, cap, rfl, -, -⟩ := h
  exact ⟨a, cap, rfl, h0⟩
theorem toByteS_ (v : Value) (m : List UInt8) (w : World) (hl : sizByteS m ≤ 1048576) (h : RdByteS v m w) :
    Calls Tryz.prog 8 #[v] w fun e w' => ∃ u, e = .returned u ∧ Sits (OwByteS w.heap.size w'.heap.size u m) w.heap.size w'.heap.size w' ∧ Below w.heap.size w w' := toB v m w (by unfold sizByteS at hl; omega) h
theorem eqByteS_ (u v : Value) (m : List UInt8) (w : World) (hu : RdByteS u m w) (hv : RdByteS v m w) :
    Calls Tryz.prog 12 #[u, v] w fun e w' => e = .returned (.bool true) ∧ Below w.heap.size w w' := eqByteS_yes u v m w hu hv
theorem markByteS_ (lo hi : Nat) (v : Value) (m : List UInt8) (k0 : Nat) (w : World) (hk : k0 ≤ 1073741824) (hl : cntByteS m ≤ 1073741824) (h : Sits (OwByteS lo hi v m) lo hi w) :
    Calls Tryz.prog 14 #[v, .int .i64 (k0 : Int)] w fun e w' => e = .returned (.int .i64 ((k0 + cntByteS m : Nat) : Int)) ∧ Sits (OwByteS lo hi v (mkByteS k0 m)) lo hi w' ∧ Wr lo hi w w' := markB lo hi v m k0 w (by omega) (by unfold cntByteS at hl; omega) h
def okByteS (m : List UInt8) : Prop := True
def IsByteS (v : Value) (m : List UInt8) (w : World) : Prop := RdByteS v m w ∧ okByteS m
theorem cntByteS_le {m : List UInt8} (h : sizByteS m ≤ 1048576) : cntByteS m ≤ 1048576 := h
end Go.Proofs.YtioocibgfhgkhaaGreatDoor
