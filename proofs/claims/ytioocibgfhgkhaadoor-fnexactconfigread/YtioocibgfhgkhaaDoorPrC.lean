/- Records as bytes: impl's new reader, and the config that it reads. -/
import Derived.Test.YtioocibgfhgkhaaDoorPrB
import Derived.Test.YtioocibgfhgkhaaDoorPutW
import Derived.Test.YtioocibgfhgkhaaDoorGaB
import Derived.Test.YtioocibgfhgkhaaDoorGaA
namespace Go.Proofs.YtioocibgfhgkhaaDoor
open Go.ChangeShapes Go.WideShapes Go.ChangeAt Go.RowKit
set_option linter.unusedVariables false
set_option linter.unusedSimpArgs false
set_option maxRecDepth 100000

/-- All was right, all was read, and it is a record. -/
def RdG (ok : Bool) (q n : Nat) (P : Prop) : Prop := ok = true ∧ q = n ∧ P
/-- What was read of a record, and whether it is one. -/
def RecPost {μ : Type} (O : μ → Value → World → Prop) (G : Prop) (M : μ) (w0 : World) (v err : Value) (w' : World) : Prop := ∃ m, O m v w' ∧ (G → err = .nilIface ∧ m = M) ∧ (¬ G → ∃ p, err = wrg p) ∧ Below w0.heap.size w0 w'
/-- .. and what is handed back of it. -/
def UnPost {μ : Type} (O : μ → Value → World → Prop) (G : Prop) (M : μ) (Z : Value) (w0 : World) (v : Value) (b : Bool) (w' : World) : Prop := (G → b = true ∧ O M v w') ∧ (¬ G → b = false ∧ v = Z) ∧ Below w0.heap.size w0 w'
/-- What hangs on blocks from n on alone. -/
def FarO (n : Nat) (O : World → Prop) : Prop := ∀ W W', O W → W.heap.size ≤ W'.heap.size → (∀ k, n ≤ k → k < W.heap.size → W'.heap[k]? = W.heap[k]?) → O W'
theorem OwnN.farO (n : Nat) (u : Value) (xs : List Int) : FarO n (fun W => OwnN W n u xs) := fun W W' h hs hk => by
  obtain ⟨h0, a, cap, rfl, hcap, h⟩ := h
  refine ⟨h0, a, cap, rfl, hcap, ?_⟩
  rcases h with h | ⟨b, off, rfl, hg, hc⟩
  · exact .inl h
  · exact .inr ⟨b, off, rfl, hg, fun i hi => ⟨(World.cell?_of_block (a := ⟨b, off + i, none⟩) (hk b hg (dCell_lt (hc i hi).1))).trans (hc i hi).1, (World.frozen?_of_block (a := ⟨b, off + i, none⟩) (hk b hg (dCell_lt (hc i hi).1))).trans (hc i hi).2⟩⟩
set_option maxHeartbeats 2000000 in
theorem newReader_any (v : Value) (bs : List UInt8) (w : World) (hv : Bs w v bs) :
    Calls Tryd.prog 57 #[v] w fun e w' => e = .returned (.pointer (some ⟨w.heap.size + 1, 0, none⟩)) ∧ Rc w' w.heap.size v 0 true ∧ Below w.heap.size w w' := by
  have ba : ∀ (w : World) o, Below w.heap.size w (w.alloc o) := fun w o => (Below.refl _ _).alloc (Nat.le_refl _) o
  obtain ⟨-, a, cap, rfl, -⟩ := hv
  have e1 : (w.alloc (.cells #[.int .i64 0] 3)).heap.size = w.heap.size + 1 := by simp
  have F := dHide (And.intro (Rc.yes (show RcW ((w.alloc (.cells #[.int .i64 0] 3)).alloc (.cells #[.slice a bs.length cap, .pointer (some ⟨w.heap.size, 0, none⟩), .nilIface] 98)) w.heap.size (.slice a bs.length cap) .nilIface ((0 : Nat) : Int) from ⟨by
    have := BxZ.new (B := w.heap.size) (w.alloc (.cells #[.int .i64 0] 3)) [.slice a bs.length cap, .pointer (some ⟨w.heap.size, 0, none⟩), .nilIface] 98 (by simp)
    rwa [e1] at this, by
    have h := (BxZ.new (B := w.heap.size) w [.int .i64 0] 3 (Nat.le_refl _)).below (ba _ (.cells #[.slice a bs.length cap, .pointer (some ⟨w.heap.size, 0, none⟩), .nilIface] 98))
    exact h.2 0 _ rfl⟩)) (belowThen (ba w (.cells #[.int .i64 0] 3)) (ba _ (.cells #[.slice a bs.length cap, .pointer (some ⟨w.heap.size, 0, none⟩), .nilIface] 98))))
  clear ba e1
  go_enter Tryd.func57, Tryd.ntmps57
  go_wp2
  go_ret
  exact ⟨rfl, (dUnhide F).1, (dUnhide F).2⟩
theorem Wr.new {lo hi : Nat} {w w1 w2 : World} (h : Wr lo hi w w1) {b : Nat} (hb : w.heap.size ≤ b) (g : ∀ k, k ≠ b → w2.heap[k]? = w1.heap[k]?) (hs : w2.heap.size = w1.heap.size) (hB : Below w.heap.size w1 w2) : Wr lo hi w w2 :=
  ⟨hB.os.trans h.os, hB.tape.trans h.tape, hB.output.trans h.output, by rw [hs]; exact h.size, fun k hk hn => (g k (by omega)).trans (h.block k hk hn)⟩
set_option maxHeartbeats 4000000 in
theorem config_any (ab : Nat) (v : Value) (bs : List UInt8) (q : Nat) (ok : Bool) (w : World) (hc : Rc w ab v q ok) (HV : ∀ W, Wr ab (ab + 2) w W → Bs W v bs) (hl : bs.length ≤ 1048576) (hq : q ≤ bs.length) (hne : bs = [] ∨ blockOf v ≠ ab) :
    Calls Tryd.prog 38 #[.pointer (some ⟨ab + 1, 0, none⟩)] w fun e w' => ∃ (ua : Option Addr) (n c : Nat) (x : Int) (m : List Int × Int), e = .returned (.agg #[.slice ua n c, .int .i64 x]) ∧ (n = m.1.length ∧ x = m.2 ∧ OwnN w' w.heap.size (.slice ua m.1.length c) m.1 ∧ 0 ≤ x ∧ x ≤ 9223372036854775807) ∧ ((rdN bs (rdL bs q ok).2.1 (rdL bs q ok).2.2).2.2 = true → m = ((rdL bs q ok).1, (rdN bs (rdL bs q ok).2.1 (rdL bs q ok).2.2).1)) ∧ Rc w' ab v (rdN bs (rdL bs q ok).2.1 (rdL bs q ok).2.2).2.1 (rdN bs (rdL bs q ok).2.1 (rdL bs q ok).2.2).2.2 ∧ Wr ab (ab + 2) w w' := by
  have hab := hc.lt
  have ba : Below w.heap.size w (w.alloc (.cells #[.slice none 0 0, .int .i64 0] 25)) := (Below.refl _ _).alloc (Nat.le_refl _) _
  have Z0 := BxZ.new (B := w.heap.size) w [.slice none 0 0, .int .i64 0] 25 (Nat.le_refl _)
  have HV := dHide HV
  have C1 := dHide (listOfI_any ab v bs q ok (w.alloc (.cells #[.slice none 0 0, .int .i64 0] 25)) (hc.below ba) (fun W hW => dUnhide HV W ((Wr.of_below ba).trans hW)) hl hq hne)
  have C2 := dHide fun q ok W (hd : Wr ab (ab + 2) w W) (hc : Rc W ab v q ok) => number_any ab v bs q ok W hc (dUnhide HV W hd) hne
  have hq1 := rdL_le bs q ok hq
  have OKL : Hid ((rdN bs (rdL bs q ok).2.1 (rdL bs q ok).2.2).2.2 = true → (rdL bs q ok).2.2 = true) := fun h => by
    cases hk : (rdL bs q ok).2.2 with
    | true => rfl
    | false => rw [hk] at h; cases h
  have W0 := Wr.of_below (lo := ab) (hi := ab + 2) ba
  have hs0 : (w.alloc (.cells #[.slice none 0 0, .int .i64 0] 25)).heap.size = w.heap.size + 1 := by simp
  generalize rdL bs q ok = L at *
  obtain ⟨ds, q1, ok1⟩ := L
  simp only at hq1 C1 OKL ⊢
  have C2 := dHide fun W (hd : Wr ab (ab + 2) w W) (hc : Rc W ab v q1 ok1) => dUnhide C2 q1 ok1 W hd hc
  generalize rdN bs q1 ok1 = R at *
  obtain ⟨y, q2, ok2⟩ := R
  simp only at C2 OKL ⊢
  go_enter Tryd.func38, Tryd.ntmps38
  go_upto_region 1 with fail
  generalize w.alloc (.cells #[.slice none 0 0, .int .i64 0] 25) = w0 at *
  go_wp2_with fail
  refine (dUnhide C1).mono ?_
  rintro e w1 ⟨u, xs, rfl, O1, hxs, hc1, hw1⟩
  have hs1 := hw1.size
  have W1 := W0.trans hw1
  have Z1 : BxZ w1 w.heap.size w.heap.size [.slice none 0 0, .int .i64 0] := ⟨Z0.1, fun i u hu => ⟨(World.cell?_of_block (a := ⟨w.heap.size, i, none⟩) (hw1.block _ (dCell_lt (Z0.2 i u hu).1) (.inr hab))).trans (Z0.2 i u hu).1, (World.frozen?_of_block (a := ⟨w.heap.size, i, none⟩) (hw1.block _ (dCell_lt (Z0.2 i u hu).1) (.inr hab))).trans (Z0.2 i u hu).2⟩⟩
  have C3 := dHide (dUnhide C2 w1 W1 hc1)
  obtain ⟨-, ua, uc, rfl, -⟩ := O1.bs
  have HO1 := dHide O1
  have HXS := dHide hxs
  clear C1 C2 Z0 hc1 hw1 hxs O1 hc
  go_wp2_with fail
  refine (dUnhide C3).mono ?_
  rintro e w2 ⟨x, rfl, hxb, hx, hc2, hw2⟩
  have hs2 := hw2.size
  have Z2 : BxZ w2 w.heap.size w.heap.size [.slice none 0 0, .int .i64 0] := ⟨Z1.1, fun i u hu => ⟨(World.cell?_of_block (a := ⟨w.heap.size, i, none⟩) (hw2.block _ (dCell_lt (Z1.2 i u hu).1) (.inr hab))).trans (Z1.2 i u hu).1, (World.frozen?_of_block (a := ⟨w.heap.size, i, none⟩) (hw2.block _ (dCell_lt (Z1.2 i u hu).1) (.inr hab))).trans (Z1.2 i u hu).2⟩⟩
  have O2 : OwnN w2 (w.heap.size + 1) (.slice ua xs.length uc) xs := OwnN.farO _ _ _ w1 w2 (by rw [← hs0]; exact dUnhide HO1) hs2 (fun k h1 h2 => hw2.block k h2 (.inr (by omega)))
  have W2 := W1.trans hw2
  have HX := dHide hx
  clear C3 Z1 HO1 W1 hw2 hx
  go_wp2_with (refine wp_putW rfl _ _ _ rfl rfl [.slice ua xs.length uc, .int .i64 x] rfl rfl Z2 rfl (by kernel_rfl) (by kernel_rfl) ?_; intro w3 Y3 s3 g3 b3)
  refine bodyPost_ret (results_box Tryd.results38 _ _ _ [.slice ua xs.length uc, .int .i64 x] _ rfl Y3.bx Tryd.underlying25 rfl (by kernel_rfl)) rfl ⟨ua, xs.length, uc, x, (xs, x), rfl, ⟨rfl, rfl, ?_, hxb.1, hxb.2⟩, fun h => ?_, ?_, W2.new (Nat.le_refl _) g3 s3 b3⟩
  · exact (OwnN.farO _ _ _ w2 w3 O2 (by rw [s3]; exact Nat.le_refl _) (fun k h1 h2 => g3 k (by omega))).mono (by omega)
  · rw [dUnhide HXS (dUnhide OKL h), dUnhide HX h]
  · exact hc2.wr (row := some w.heap.size) ⟨b3.os, b3.tape, b3.output, by rw [s3]; exact Nat.le_refl _, fun k hk hn => g3 k (by rintro rfl; exact hn rfl)⟩ (by intro e; simp only [Option.some.injEq] at e; omega) (by intro e; simp only [Option.some.injEq] at e; omega)
end Go.Proofs.YtioocibgfhgkhaaDoor
