/- The lines of deeds: impl's DeedLine. -/
import Derived.Test.YtmgomacmaidmlaaGreatDoorDlD
namespace Go.Proofs.YtmgomacmaidmlaaGreatDoor
open Go.ChangeShapes Go.WideShapes Go.ChangeAt Go.RowKit
set_option linter.unusedVariables false
set_option linter.unusedSimpArgs false
set_option maxRecDepth 100000

theorem joinX : Builder.Extra Tryz.prog Tryz.lays156_ren where
  sizeBuilder := by kernel_rfl
  liesBuilder := by kernel_rfl
  t5 := Tryz.underlying5
  a5 := run_isAgg_plain Tryz.underlying5 rfl
  z5 := Tryz.sizeOf5
  v5 := Tryz.zeroValue5
  infoByte := by kernel_rfl
  cellsByte := by kernel_rfl
  sizeByte := by kernel_rfl
  neB5 := by decide
theorem lineS_size (wd : ByteArray) (r : List ByteArray) (h : ∀ x ∈ r, x.size ≤ 60) : (lineS wd r).size ≤ wd.size + 61 * r.length := by
  induction r generalizing wd with
  | nil => simp [lineS]
  | cons x r ih =>
    have h1 := ih ((wd ++ ⟨#[32]⟩) ++ x) (fun y hy => h y (by simp [hy]))
    have h2 := h x (by simp)
    unfold lineS at h1 ⊢
    rw [List.foldl_cons, List.length_cons]
    rw [sizeS, sizeS, show (⟨#[32]⟩ : ByteArray).size = 1 from rfl] at h1
    omega
theorem tail_small (N : Nat) (d : De) (hi : d.ints) (ht : d.t.size ≤ 40) : ∀ x ∈ tailL N d, x.size ≤ 60 := by
  have h1 : (fstS d).size ≤ 60 := by
    unfold fstS
    split
    · have := plS_size d.a; omega
    · have := numS_size hi.1.2; omega
  have h2 := numS_size hi.2.1.2
  have h3 := numS_size hi.2.2.2
  intro x hx
  unfold tailL at hx
  simp only [List.mem_append] at hx
  rcases hx with ((hx | hx) | hx) | hx <;> split at hx <;> simp at hx <;> subst hx <;> omega
theorem tail_len (N : Nat) (d : De) : (tailL N d).length ≤ 4 := by
  unfold tailL
  simp only [List.length_append]
  split <;> split <;> split <;> split <;> simp
theorem wordB_size (k : Int) (h : 1 ≤ k ∧ k ≤ 16) : (wordB k).size ≤ 5 := by
  rcases kinds16 h with rfl | rfl | rfl | rfl | rfl | rfl | rfl | rfl | rfl | rfl | rfl | rfl | rfl | rfl | rfl | rfl <;> decide
theorem pieces_bound (d : De) (hk : 1 ≤ d.k ∧ d.k ≤ 16) (hi : d.ints) (ht : d.t.size ≤ 40) : (lineS (wordB d.k) (tailL (nm d.k) d)).size ≤ 300 := by
  have h1 := lineS_size (wordB d.k) (tailL (nm d.k) d) (tail_small _ d hi ht)
  have h2 := tail_len (nm d.k) d
  have h3 := wordB_size d.k hk
  omega
theorem implJoin_any (v : Value) (d : De) (w : World) (hk : 1 ≤ d.k ∧ d.k ≤ 16) (hi : d.ints) (ht : d.t.size ≤ 40) (hv : Rw 1 strCl w v (piecesL d)) :
    Calls Tryz.prog 17 #[v, .string ⟨#[32]⟩] w fun e w' => e = .returned (.string (lineS (wordB d.k) (tailL (nm d.k) d))) ∧ Below w.heap.size w w' := by
  have hb := pieces_bound d hk hi ht
  have hj := lineS_join (wordB d.k) (tailL (nm d.k) d)
  obtain ⟨h0, a, cap, rfl, hcap, h⟩ := hv
  rcases h with h | ⟨b, off, rfl, hc⟩
  · exact absurd h (by simp [piecesL])
  have hcc : ∀ (j : Nat) x, (piecesL d)[j]? = some x → w.cell? ⟨b, off + j, none⟩ = some (.string x) := fun j x hx => by
    obtain ⟨hj, rfl⟩ := List.getElem?_eq_some_iff.1 hx
    have := hc j hj 0 (.string (piecesL d)[j]) rfl
    simpa using this
  have hlt : b < w.heap.size := dCell_lt (hcc 0 _ rfl)
  have hl4 := tail_len (nm d.k) d
  have hlen : (Lib.join ((piecesL d).map (·.data.toList)) [32]).length ≤ 300 := by
    have : (⟨(Lib.join ((piecesL d).map (·.data.toList)) [32]).toArray⟩ : ByteArray).size ≤ 300 := by unfold piecesL; rw [hj]; exact hb
    rw [bsize] at this
    simpa using this
  refine (Any.strings_Join Tryz.lays156 joinX b off cap (piecesL d) ⟨#[32]⟩ w hcc hlt (by unfold piecesL; simp only [List.length_cons]; omega) hcap.1 (by simpa using (Nat.le_trans hlen (by decide)))).mono ?_
  rintro e w' ⟨rfl, hb'⟩
  refine ⟨?_, hb'⟩
  have := hj
  unfold piecesL
  simpa using this
theorem implLine_bad (d : De) (w : World) (CD : ∀ w, Calls Tryz.prog 15 #[d.val] w fun r w' => r = .returned (.bool false) ∧ Below w.heap.size w w') :
    Calls Tryz.prog 7 #[d.val] w fun e w' => e = .returned (.tuple #[.string ⟨#[]⟩, .bool false]) ∧ Below w.heap.size w w' := by
  obtain ⟨k, a, b, c, t⟩ := d
  have CD := dHide CD
  simp only [De.val] at *
  have b1 : Below w.heap.size w (w.alloc (.cells #[.int .i64 k, .int .i64 a, .int .i64 b, .int .i64 c, .string t] 27)) := (Below.refl _ _).alloc (Nat.le_refl _) _
  go_enter Tryz.func7, Tryz.ntmps7
  go_wp2_with (go_at_call 15; refine (dUnhide CD _).mono ?_; rintro e w2 ⟨rfl, hb2⟩)
  go_returns
  exact ⟨rfl, belowThen b1 hb2⟩
theorem implLine_no (d : De) (w : World) (hi : d.ints) (CD : ∀ w, Calls Tryz.prog 15 #[d.val] w fun r w' => r = .returned (.bool true) ∧ Below w.heap.size w w') (hn : ¬ lineP d) :
    Calls Tryz.prog 7 #[d.val] w fun e w' => e = .returned (.tuple #[.string ⟨#[]⟩, .bool false]) ∧ Below w.heap.size w w' := by
  have CH := dHide fun W => implHas_any d hi W
  obtain ⟨k, a, b, c, t⟩ := d
  have CD := dHide CD
  simp only [De.val] at *
  have X1 := Bx.new w [.int .i64 k, .int .i64 a, .int .i64 b, .int .i64 c, .string t] 27
  have b1 : Below w.heap.size w (w.alloc (.cells #[.int .i64 k, .int .i64 a, .int .i64 b, .int .i64 c, .string t] 27)) := (Below.refl _ _).alloc (Nat.le_refl _) _
  go_enter Tryz.func7, Tryz.ntmps7
  go_wp2_with (first
    | (go_at_call 15; refine (dUnhide CD _).mono ?_; rintro e w2 ⟨rfl, hb2⟩; have B2 := belowThen b1 hb2; have z0 := X1.below hb2 0 _ rfl; have z1 := X1.below hb2 1 _ rfl; have z2 := X1.below hb2 2 _ rfl; have z3 := X1.below hb2 3 _ rfl; have z4 := X1.below hb2 4 _ rfl)
    | (go_at_call 16; refine (dUnhide CH _).mono ?_; rintro e w3 ⟨hR, hb3⟩; obtain rfl := hR.of_no hn; have B3 := belowThen B2 hb3))
  go_returns
  exact ⟨rfl, B3⟩
theorem implLine_yes (d : De) (w : World) (hi : d.ints) (hk : 1 ≤ d.k ∧ d.k ≤ 16) (ht : d.t.size ≤ 40) (hb : tenP d.b) (hc : tenP d.c) (htab : Lib.TabIs Tryz.prog w "internal/strconv.uint64pow10" .u64 Lib.pow10Tab)
    (CD : ∀ w, Calls Tryz.prog 15 #[d.val] w fun r w' => r = .returned (.bool true) ∧ Below w.heap.size w w') (hn : lineP d) :
    Calls Tryz.prog 7 #[d.val] w fun e w' => e = .returned (.tuple #[.string (lineS (wordB d.k) (tailL (nm d.k) d)), .bool true]) ∧ Below w.heap.size w w' := by
  have CH := dHide fun W => implHas_any d hi W
  have CP := dHide fun W (hB : Below w.heap.size w W) => implPieces_any d hk (hn.elim .inl fun h => .inr ⟨h.1, h.2.1.1⟩) hb hc W (tabKept htab hB)
  have CJ := dHide fun v W => implJoin_any v d W hk hi ht
  generalize lineS (wordB d.k) (tailL (nm d.k) d) = out at *
  have hL := dHide hn
  generalize hlp : lineP d = LP at *
  clear hn hb hc hk ht hi htab
  generalize hpl : piecesL d = PL at *
  obtain ⟨k, a, b, c, t⟩ := d
  have CD := dHide CD
  clear hlp hpl
  simp only [De.val] at *
  have X1 := Bx.new w [.int .i64 k, .int .i64 a, .int .i64 b, .int .i64 c, .string t] 27
  have b1 : Below w.heap.size w (w.alloc (.cells #[.int .i64 k, .int .i64 a, .int .i64 b, .int .i64 c, .string t] 27)) := (Below.refl _ _).alloc (Nat.le_refl _) _
  go_enter Tryz.func7, Tryz.ntmps7
  go_wp2_with (first
    | (go_at_call 15; refine (dUnhide CD _).mono ?_; rintro e w2 ⟨rfl, hb2⟩; have B2 := belowThen b1 hb2; have X2 := X1.below hb2; have z0 := X2 0 _ rfl; have z1 := X2 1 _ rfl; have z2 := X2 2 _ rfl; have z3 := X2 3 _ rfl; have z4 := X2 4 _ rfl)
    | (go_at_call 16; refine (dUnhide CH _).mono ?_; rintro e w3 ⟨hR, hb3⟩; obtain rfl := hR.of_yes (dUnhide hL); have B3 := belowThen B2 hb3; have X3 := X2.below hb3; have y0 := X3 0 _ rfl; have y1 := X3 1 _ rfl; have y2 := X3 2 _ rfl; have y3 := X3 3 _ rfl; have y4 := X3 4 _ rfl)
    | (go_at_call 18; refine (dUnhide CP _ B3).mono ?_; rintro e w4 ⟨⟨v4, rfl, h4⟩, hb4⟩; have B4 := belowThen B3 hb4; have H4 := dHide h4; clear h4)
    | (go_at_call 17; refine (dUnhide CJ _ _ (dUnhide H4)).mono ?_; rintro e w5 ⟨rfl, hb5⟩; have B5 := belowThen B4 hb5))
  go_returns
  exact ⟨rfl, B5⟩
end Go.Proofs.YtmgomacmaidmlaaGreatDoor
