/- The lines of deeds: impl's pieces. -/
import Derived.Test.YtmgomacmaidmlaaGreatDoorDlB
namespace Go.Proofs.YtmgomacmaidmlaaGreatDoor
open Go.ChangeShapes Go.WideShapes Go.ChangeAt Go.RowKit
set_option linter.unusedVariables false
set_option linter.unusedSimpArgs false
set_option maxRecDepth 100000

/-- What a deed's line asks of its numbers. -/
def lineN (d : De) : Prop := (d.k = 13 ∧ isPl d.a) ∨ (d.k ≠ 13 ∧ tenP d.a)
set_option maxHeartbeats 8000000 in
theorem implPieces_any (d : De) (hk : 1 ≤ d.k ∧ d.k ≤ 16) (hn : lineN d) (hb : tenP d.b) (hc : tenP d.c) (w : World) (htab : Lib.TabIs Tryz.prog w "internal/strconv.uint64pow10" .u64 Lib.pow10Tab) :
    Calls Tryz.prog 18 #[d.val] w fun e w' => (∃ v, e = .returned v ∧ Rw 1 strCl w' v (piecesL d)) ∧ Below w.heap.size w w' := by
  have CF0 := implFirst_any d hn
  obtain ⟨k, a, b, c, t⟩ := d
  simp only [De.val] at *
  obtain ⟨n, rfl⟩ : ∃ n : Nat, k = (n : Int) := ⟨k.toNat, by omega⟩
  have hn16 : 1 ≤ n ∧ n ≤ 16 := by omega
  have X1 := Bx.new w [.int .i64 (n : Int), .int .i64 a, .int .i64 b, .int .i64 c, .string t] 27
  have b1 : Below w.heap.size w (w.alloc (.cells #[.int .i64 (n : Int), .int .i64 a, .int .i64 b, .int .i64 c, .string t] 27)) := (Below.refl _ _).alloc (Nat.le_refl _) _
  obtain ⟨fv, hIF⟩ := kinds_ix n hn16
  have hI := fun W => (hIF W).1
  have hF := fun W => (hIF W).2
  clear hIF
  have hW := words_ix n hn16
  have CK := dHide implKinds_any
  have CW := dHide implWords_any
  have NM := nm_of n hn16
  have hpl : piecesL ⟨(n : Int), a, b, c, t⟩ = wordB (n : Int) :: tailL (nmL.getD n 0) ⟨(n : Int), a, b, c, t⟩ := by unfold piecesL nm; simp only [Int.toNat_natCast]
  rw [hpl]
  clear hpl hn hk
  generalize hN : nmL.getD n 0 = N at *
  generalize (Value.agg kindsL.toArray) = KV at *
  generalize (Value.agg wordsV.toArray) = WV at *
  generalize wordB (n : Int) = wd at *
  have TB := tabKept htab b1
  clear htab
  go_enter Tryz.func18, Tryz.ntmps18
  go_wp2_with fail
  generalize hw1 : w.alloc (.cells #[.int .i64 (n : Int), .int .i64 a, .int .i64 b, .int .i64 c, .string t] 27) = w1 at *
  have s1 : w1.heap.size = w.heap.size + 1 := by rw [← hw1]; simp
  clear hw1
  have q0 := X1 0 _ rfl
  have bd : Below w1.heap.size w1 w1.drew := (Below.refl _ _).drew
  have Xd := X1.below bd
  have CF := dHide fun W (hB : Below w1.heap.size w1 W) => CF0 W (tabKept TB hB)
  have CB := dHide fun W (hB : Below w1.heap.size w1 W) => Itoa_any b (by unfold tenP at hb; omega) W (tabKept TB hB)
  have CC := dHide fun W (hB : Below w1.heap.size w1 W) => Itoa_any c (by unfold tenP at hc; omega) W (tabKept TB hB)
  rw [show max b 0 = b by unfold tenP at hb; omega] at CB
  rw [show max c 0 = c by unfold tenP at hc; omega] at CC
  clear CF0 TB hb hc
  go_cut [3] (fun sv wx => sv = .int .i64 (N : Int) ∧ Below w1.heap.size w1 wx)
  case first =>
    go_region_with (go_at_call 22; refine (dUnhide CK _).mono ?_; rintro e w2 ⟨rfl, hb2⟩; have r2 := Xd.below hb2 0 _ rfl)
    all_goals
      go_wp2_with fail
      go_meet
      case rel => exact ⟨rfl, belowThen bd hb2⟩
  case rest =>
    rename_i w2
    obtain ⟨rfl, B2⟩ := hcut
    clear q0 bd Xd CK
    go_wp2_with fail
    have bd2 := B2.drew
    have q0 := X1.below B2 0 _ rfl
    have Xd := X1.below bd2
    go_cut [4] (fun sv wx => wx.ownsRow w1.heap.size 9 1 sv [wd].length (fcells strCl [wd]) ∧ Below w1.heap.size w1 wx)
    case first =>
      go_region_with (go_at_call 31; refine (dUnhide CW _).mono ?_; rintro e w3 ⟨rfl, hb3⟩; have r3 := Xd.below hb3 0 _ rfl; have b3 := belowThen bd2 hb3)
      all_goals
        go_wp2_with fail
        go_meet
        case rel => exact ⟨rowStr_one _ _ _ b3.size, b3.alloc b3.size _⟩
    case rest =>
      rename_i sv w3
      obtain ⟨O, B⟩ := hcut
      clear q0 bd2 Xd CW hI hF hW B2 hN hn16
      obtain ⟨sa, sc, rfl⟩ := rowR_slice O
      have z0 := X1.below B 0 _ rfl; have z1 := X1.below B 1 _ rfl; have z2 := X1.below B 2 _ rfl; have z3 := X1.below B 3 _ rfl; have z4 := X1.below B 4 _ rfl
      rcases NM with rfl | rfl | rfl | rfl | rfl | rfl
      all_goals
        go_wp2_with (first
          | (go_at_call 32; refine (dUnhide CF _ B).mono ?_; rintro e w4 ⟨rfl, hb4⟩; have O := rowR_below O hb4; have B := belowThen B hb4; have z0 := X1.below B 0 _ rfl; have z1 := X1.below B 1 _ rfl; have z2 := X1.below B 2 _ rfl; have z3 := X1.below B 3 _ rfl; have z4 := X1.below B 4 _ rfl)
          | (go_at_call_of 33 b; refine (dUnhide CB _ B).mono ?_; rintro e w4 ⟨rfl, hb4⟩; have O := rowR_below O hb4; have B := belowThen B hb4; have z0 := X1.below B 0 _ rfl; have z1 := X1.below B 1 _ rfl; have z2 := X1.below B 2 _ rfl; have z3 := X1.below B 3 _ rfl; have z4 := X1.below B 4 _ rfl)
          | (go_at_call_of 33 c; refine (dUnhide CC _ B).mono ?_; rintro e w4 ⟨rfl, hb4⟩; have O := rowR_below O hb4; have B := belowThen B hb4; have z0 := X1.below B 0 _ rfl; have z1 := X1.below B 1 _ rfl; have z2 := X1.below B 2 _ rfl; have z3 := X1.below B 3 _ rfl; have z4 := X1.below B 4 _ rfl)
          | (at_builtin; refine wp_appR elemStr rfl _ _ rfl w1.heap.size _ _ rfl (rowR_below O ((Below.refl _ _).alloc (Nat.le_refl _) _)) _ [_] rfl (rwStr_one _ _) (by simp) (by simp) (by have := B.size; simp; omega) ?_; intro v5 w5 O5 g5; have B := (B.alloc B.size _).grown g5 (B.alloc B.size _).size (fun k hk => (O.lt k hk).1); have O := O5; obtain ⟨sa, sc, rfl⟩ := rowR_slice O; have z0 := X1.below B 0 _ rfl; have z1 := X1.below B 1 _ rfl; have z2 := X1.below B 2 _ rfl; have z3 := X1.below B 3 _ rfl; have z4 := X1.below B 4 _ rfl))
        go_ret
        refine ⟨⟨_, rfl, ?_⟩, belowThen b1 B⟩
        have R := (ownRw_of_row (sz := 1) (cl := strCl) (fun _ => rfl) (by decide) O).rw
        simpa [tailL] using R
end Go.Proofs.YtmgomacmaidmlaaGreatDoor
