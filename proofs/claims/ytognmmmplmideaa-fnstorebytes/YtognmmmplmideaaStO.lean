/- spec's StoreRead. -/
import Derived.Test.YtognmmmplmideaaStL
import Derived.Test.YtognmmmplmideaaEntE
namespace Go.Proofs.Ytognmmmplmideaa
open Go.ChangeShapes Go.WideShapes Go.ChangeAt Go.RowKit
set_option linter.unusedVariables false
set_option linter.unusedSimpArgs false
set_option maxRecDepth 100000

/-- What is read of k entries from p on. -/
def readK (bs : List UInt8) (p : Nat) : Nat → Option (List Ent × Nat)
  | 0 => some ([], p)
  | k + 1 => match readK bs p k with
    | none => none
    | some (es, q) => match readZ bs (q : Int) with
      | none => none
      | some (e, q') => some (es ++ [e], q')
theorem readK_none {bs : List UInt8} {p k n : Nat} (h : readK bs p k = none) (hk : k ≤ n) : readK bs p n = none := by
  induction n with
  | zero => obtain rfl : k = 0 := by omega
            exact h
  | succ n ih =>
    rcases Nat.lt_or_ge n k with h1 | h1
    · obtain rfl : k = n + 1 := by omega
      exact h
    · unfold readK
      rw [ih h1]
theorem readK_inv {bs : List UInt8} {p : Nat} (hp : p ≤ bs.length) : ∀ {k : Nat} {es : List Ent} {q : Nat}, readK bs p k = some (es, q) → es.length = k ∧ (∀ e ∈ es, entP e) ∧ p + k ≤ q ∧ q ≤ bs.length
  | 0, es, q, h => by
    simp only [readK, Option.some.injEq, Prod.mk.injEq] at h
    obtain ⟨rfl, rfl⟩ := h
    exact ⟨rfl, (fun e h => by cases h), by omega, hp⟩
  | k + 1, es, q, h => by
    unfold readK at h
    split at h
    · cases h
    · rename_i es0 q0 h0
      obtain ⟨h1, h2, h3, h4⟩ := readK_inv hp h0
      split at h
      · cases h
      · rename_i e q' hz
        cases h
        obtain ⟨z1, z2, r, z3, z4⟩ := readZ_inv hz
        simp only [Int.toNat_natCast] at z3 z4
        have hl := congrArg List.length z3
        rw [List.length_drop, List.length_append] at hl
        have hpos : 0 < (packB e.pl.toNat e.wave.toNat e.hole e.data.data.toList).length := by unfold packB; simp only [List.length_append]; have := numB_pos e.pl.toNat; omega
        refine ⟨by simp [h1], fun y hy => ?_, by omega, by omega⟩
        rcases List.mem_append.1 hy with hy | hy
        · exact h2 y hy
        · obtain rfl : y = e := by simpa using hy
          exact z2
/-- An entry of nothing. -/
def zeroEnt0 : Ent := ⟨0, 0, false, ⟨#[]⟩⟩
theorem entP_fits {e : Ent} (h : entP e) : e.fits := by
  obtain ⟨⟨h0, h1, h2, h3, h4⟩, v0, v1, -, hd, -⟩ := h
  exact ⟨by omega, by omega, by omega, by omega, by omega⟩
open Classical in
/-- The end of StoreRead. -/
noncomputable def readE (bs : List UInt8) (lock : Nat) (o : Option (List Ent × Nat)) : St × Bool := match o with
  | none => (zeroSt, false)
  | some (es, q) => if q = bs.length ∧ stP ⟨es, [], lock⟩ then (⟨es, [], lock⟩, true) else (zeroSt, false)
/-- StoreRead. -/
noncomputable def readM (bs : List UInt8) : St × Bool := match getZ bs 0 with
  | none => (zeroSt, false)
  | some (a, k1) => match getZ bs (k1 : Int) with
    | none => (zeroSt, false)
    | some (n, k2) => readE bs a (readK bs (k1 + k2) n)
theorem getZ_end {bs : List UInt8} {x n k : Nat} (h : getZ bs (x : Int) = some (n, k)) : x + k ≤ bs.length := by
  rw [getZ] at h
  split at h
  · cases h
  · rename_i hx
    rw [Int.toNat_natCast] at h
    obtain ⟨r, h1, h2⟩ := getB_inv h
    have := congrArg List.length h1
    rw [List.length_drop, List.length_append] at this
    omega
set_option maxHeartbeats 8000000 in
theorem specStoreRead_any (v : Value) (bs : List UInt8) (w : World) (hv : Bs w v bs) (hl : bs.length ≤ 1048576) :
    Calls Try.prog 14 #[v] w fun r w' => (∃ u, r = .returned (.tuple #[u, .bool (readM bs).2]) ∧ OwS w' w.heap.size u (readM bs).1) ∧ Below w.heap.size w w' := by
  have ba : ∀ (w : World) o, Below w.heap.size w (w.alloc o) := fun w o => (Below.refl _ _).alloc (Nat.le_refl _) o
  have G := dHide fun x W (hb : Below w.heap.size w W) => specGetNum_same v bs x W (hv.below hb) (by omega)
  have ER := dHide fun x W (hb : Below w.heap.size w W) => specRead_any v bs x W (hv.below hb) (by omega)
  obtain ⟨h0, a, cap, rfl, -⟩ := hv
  have Z0 := BxZ.new (B := w.heap.size) w [.slice none 0 0, .slice none 0 0, .int .i64 0] 26 (Nat.le_refl _)
  have B0 := ba w (.cells #[.slice none 0 0, .slice none 0 0, .int .i64 0] 26)
  have RM : Hid (readM bs = match getZ bs 0 with | none => (zeroSt, false) | some (a, k1) => match getZ bs (k1 : Int) with | none => (zeroSt, false) | some (n, k2) => readE bs a (readK bs (k1 + k2) n)) := rfl
  generalize readM bs = M at *
  -- how it ends where nothing is read
  have FZ : Hid (∀ W, BxZ W w.heap.size w.heap.size [.slice none 0 0, .slice none 0 0, .int .i64 0] → Below w.heap.size w W → ∃ V, V = ((W.setCell ⟨w.heap.size, 0, none⟩ (.slice none 0 0)).setCell ⟨w.heap.size, 1, none⟩ (.slice none 0 0)).setCell ⟨w.heap.size, 2, none⟩ (.int .i64 0) ∧ Bx V w.heap.size [.slice none 0 0, .slice none 0 0, .int .i64 0] ∧ OwS V w.heap.size (.agg #[.slice none 0 0, .slice none 0 0, .int .i64 0]) zeroSt ∧ Below w.heap.size w V) := fun W z b => ⟨_, rfl, (((z.put 0 (.slice none 0 0)).put 1 (.slice none 0 0)).put 2 (.int .i64 0)).bx, OwS.zero _ _, below_three b (Nat.le_refl _) _ _ _⟩
  cases hg1 : getZ bs 0 with
  | none =>
    have HG : Hid (getT (getZ bs 0) (0 : Int).toNat = .tuple #[.int .i64 0, .int .i64 0, .bool false]) := by rw [Hid, hg1]; rfl
    have eM : M = (zeroSt, false) := by rw [dUnhide RM, hg1]
    clear hg1 RM
    go_enter Try.func14, Try.ntmps14
    go_wp2_with fail
    generalize w.alloc (.cells #[.slice none 0 0, .slice none 0 0, .int .i64 0] 26) = w0 at *
    refine (dUnhide G 0 _ B0).mono ?_
    rintro r w1 ⟨rfl, rfl⟩
    rw [dUnhide HG]
    obtain ⟨V, hV, hx, hO, hB⟩ := dUnhide FZ w1 Z0 B0
    obtain ⟨z0, f0⟩ := Z0.2 0 _ rfl
    obtain ⟨z1, f1⟩ := Z0.2 1 _ rfl
    obtain ⟨z2, f2⟩ := Z0.2 2 _ rfl
    clear G ER FZ Z0 HG
    go_wp2
    rw [← hV]
    have q0 := hx 0 _ rfl
    have q1 := hx 1 _ rfl
    have q2 := hx 2 _ rfl
    clear hV hx z0 z1 z2 f0 f1 f2
    subst eM
    refine bodyPost_ret (v := .tuple #[.agg #[.slice none 0 0, .slice none 0 0, .int .i64 0], .bool false]) (by simp [results, Try.results14, go_sem, q0, q1, q2]) rfl ⟨⟨_, rfl, hO⟩, hB⟩
  | some r1 =>
    obtain ⟨lk, k1⟩ := r1
    have HG : Hid (getT (getZ bs 0) (0 : Int).toNat = .tuple #[.int .i64 (lk : Int), .int .i64 (k1 : Int), .bool true]) := by rw [Hid, hg1]; simp [getT]
    have hlk := getZ_bd hg1
    have hk1 : k1 ≤ bs.length := by have := getZ_end (x := 0) hg1; omega
    obtain ⟨n, k2, ok2, at2, hat2, hn9, HG2, eM⟩ : ∃ (n k2 : Nat) (ok2 : Bool) (at2 : Nat), at2 ≤ bs.length ∧ n ≤ 9223372036854775807 ∧ Hid (getT (getZ bs (k1 : Int)) (k1 : Int).toNat = .tuple #[.int .i64 (n : Int), .int .i64 (at2 : Int), .bool ok2]) ∧ Hid ((ok2 = true ∧ at2 ≤ bs.length ∧ n ≤ 9223372036854775807 ∧ M = readE bs lk (readK bs at2 n)) ∨ (ok2 = false ∧ n = 0 ∧ M = (zeroSt, false))) := by
      cases hg2 : getZ bs (k1 : Int) with
      | none => exact ⟨0, 0, false, 0, Nat.zero_le _, Nat.zero_le _, rfl, .inr ⟨rfl, rfl, by rw [dUnhide RM, hg1]; simp only; rw [hg2]⟩⟩
      | some r2 =>
        obtain ⟨n, k2⟩ := r2
        exact ⟨n, k2, true, k1 + k2, getZ_end hg2, getZ_bd hg2, by simp [Hid, getT], .inl ⟨rfl, getZ_end hg2, getZ_bd hg2, by rw [dUnhide RM, hg1]; simp only; rw [hg2]⟩⟩
    clear hg1 RM
    go_enter Try.func14, Try.ntmps14
    go_wp2_with fail
    generalize w.alloc (.cells #[.slice none 0 0, .slice none 0 0, .int .i64 0] 26) = w0 at *
    refine (dUnhide G 0 _ B0).mono ?_
    rintro r w1 ⟨rfl, rfl⟩
    rw [dUnhide HG]
    clear HG
    go_wp2_with fail
    refine (dUnhide G (k1 : Int) _ B0).mono ?_
    rintro r w2 ⟨rfl, rfl⟩
    rw [dUnhide HG2]
    clear HG2 G
    have OB := BxZ.new (B := w.heap.size) w2 [.slice none 0 0, .slice none 0 0, .int .i64 (lk : Int)] 26 B0.size
    have b23 := ba w2 (.cells #[.slice none 0 0, .slice none 0 0, .int .i64 (lk : Int)] 26)
    have Z3 := Z0.below b23
    have B3 := belowThen B0 b23
    have hrb := Z0.lt
    have hs3 : (w2.alloc (.cells #[.slice none 0 0, .slice none 0 0, .int .i64 (lk : Int)] 26)).heap.size = w2.heap.size + 1 := by simp
    clear Z0 B0 b23
    go_wp2
    generalize hbo : w2.heap.size = bo at *
    generalize w2.alloc (.cells #[.slice none 0 0, .slice none 0 0, .int .i64 (lk : Int)] 26) = w3 at *
    go_loopw [5, 6, 9] (fun p o i wr => ∃ (k q : Nat) (okb : Bool) (es : List Ent) (v6 : Value), p = .int .i64 (q : Int) ∧ o = .bool okb ∧ i = .int .i64 (k : Int) ∧ k ≤ n ∧ Hid ((okb = true ∧ ok2 = true ∧ readK bs at2 k = some (es, q)) ∨ (okb = false ∧ (ok2 = false ∨ readK bs at2 k = none))) ∧ q ≤ 1048576 ∧ BxZ wr w.heap.size bo [v6, .slice none 0 0, .int .i64 (lk : Int)] ∧ ApE wr w3.heap.size v6 es ∧ BxZ wr w.heap.size w.heap.size [.slice none 0 0, .slice none 0 0, .int .i64 0] ∧ Below w.heap.size w wr ∧ w3.heap.size ≤ wr.heap.size) (fun _ _ i _ => n - (intOf i).toNat)
    case atStart =>
      refine ⟨0, at2, ok2, [], _, rfl, rfl, rfl, Nat.zero_le _, ?_, ?_, OB, .inl ⟨rfl, none, rfl⟩, Z3, B3, Nat.le_refl _⟩
      · rcases dUnhide eM with ⟨h1, -⟩ | ⟨h1, -⟩
        · exact .inl ⟨h1, h1, rfl⟩
        · exact .inr ⟨h1, .inl h1⟩
      · omega
    case round =>
      obtain ⟨k, q, okb, es, v6, rfl, rfl, rfl, hk, hst, hq, BX, P6, Zr, hb, hsz⟩ := hrel
      clear OB Z3 B3
      cases okb with
      | false =>
        by_cases hlt : (k : Int) < (n : Int)
        · have eM' : M = (zeroSt, false) := by
            rcases dUnhide eM with ⟨h1, -, -, h4⟩ | ⟨-, -, h4⟩
            · rcases dUnhide hst with ⟨h, -⟩ | ⟨-, h | h⟩
              · cases h
              · rw [h1] at h; cases h
              · rw [h4, readK_none h hk]; rfl
            · exact h4
          obtain ⟨V, hV, hx, hO, hB⟩ := dUnhide FZ wr Zr hb
          obtain ⟨z0, f0⟩ := Zr.2 0 _ rfl
          obtain ⟨z1, f1⟩ := Zr.2 1 _ rfl
          obtain ⟨z2, f2⟩ := Zr.2 2 _ rfl
          clear eM hst FZ ER BX P6 Zr
          go_wp2
          rw [← hV]
          have q0 := hx 0 _ rfl
          have q1 := hx 1 _ rfl
          have q2 := hx 2 _ rfl
          clear hV hx z0 z1 z2 f0 f1 f2
          subst eM'
          refine bodyPost_ret (v := .tuple #[.agg #[.slice none 0 0, .slice none 0 0, .int .i64 0], .bool false]) (by simp [results, Try.results14, go_sem, q0, q1, q2]) rfl ⟨⟨_, rfl, hO⟩, hB⟩
        · have eM' : M = (zeroSt, false) := by
            rcases dUnhide eM with ⟨h1, -, -, h4⟩ | ⟨-, -, h4⟩
            · rcases dUnhide hst with ⟨h, -⟩ | ⟨-, h | h⟩
              · cases h
              · rw [h1] at h; cases h
              · rw [h4, readK_none h hk]; rfl
            · exact h4
          obtain ⟨V, hV, hx, hO, hB⟩ := dUnhide FZ wr Zr hb
          obtain ⟨z0, f0⟩ := Zr.2 0 _ rfl
          obtain ⟨z1, f1⟩ := Zr.2 1 _ rfl
          obtain ⟨z2, f2⟩ := Zr.2 2 _ rfl
          clear eM hst FZ ER BX P6 Zr
          go_wp2
          rw [← hV]
          have q0 := hx 0 _ rfl
          have q1 := hx 1 _ rfl
          have q2 := hx 2 _ rfl
          clear hV hx z0 z1 z2 f0 f1 f2
          subst eM'
          refine bodyPost_ret (v := .tuple #[.agg #[.slice none 0 0, .slice none 0 0, .int .i64 0], .bool false]) (by simp [results, Try.results14, go_sem, q0, q1, q2]) rfl ⟨⟨_, rfl, hO⟩, hB⟩
      | true =>
        by_cases hlt : (k : Int) < (n : Int)
        · obtain ⟨ho2, hrk⟩ : ok2 = true ∧ readK bs at2 k = some (es, q) := by
            rcases dUnhide hst with ⟨-, h⟩ | ⟨h, -⟩
            · exact h
            · cases h
          obtain ⟨hes, -, hq3, hq4⟩ := readK_inv hat2 hrk
          obtain ⟨e', q2, fine, hT, hN, hq2⟩ : ∃ (e' : Ent) (q2 : Nat) (fine : Bool), Hid (readT (readZ bs (q : Int)) = .tuple #[e'.val, .int .i64 (q2 : Int), .bool fine]) ∧ Hid ((fine = true ∧ ok2 = true ∧ readK bs at2 (k + 1) = some (es ++ [e'], q2)) ∨ (fine = false ∧ (ok2 = false ∨ readK bs at2 (k + 1) = none))) ∧ q2 ≤ 1048576 := by
            cases hz : readZ bs (q : Int) with
            | none => exact ⟨zeroEnt0, 0, false, rfl, .inr ⟨rfl, .inr (by unfold readK; rw [hrk]; simp only; rw [hz])⟩, by omega⟩
            | some r =>
              obtain ⟨e, q'⟩ := r
              have h1 : readK bs at2 (k + 1) = some (es ++ [e], q') := by unfold readK; rw [hrk]; simp only; rw [hz]
              exact ⟨e, q', true, rfl, .inl ⟨rfl, ho2, h1⟩, by have := (readK_inv hat2 h1).2.2.2; omega⟩
          have RE : Hid (∀ (w : World) T, Rw 4 Ent.cl (w.alloc (.cells #[.int .i64 e'.pl, .int .i64 e'.wave, .bool e'.hole, .string e'.data] T)) (.slice (some ⟨w.heap.size, 0, none⟩) 1 1) [e']) := fun w T => rw_one w e' T 1 (by omega)
          obtain ⟨a6, c6, rfl⟩ := ApR.slice elemE P6
          obtain ⟨ex, ew, eh, ed⟩ := e'
          unfold Ent.val at hT
          simp only at hT RE hN
          have hesl : es.length ≤ 1048576 := by omega
          clear hst eM FZ ho2 hrk hes hq3 hq4
          go_wp2_with fail
          refine (dUnhide ER (q : Int) wr hb).mono ?_
          rintro r w5 ⟨rfl, b5⟩
          rw [dUnhide hT]
          have bE := belowThen b5 (ba w5 (.cells #[.int .i64 ex, .int .i64 ew, .bool eh, .string ed] 66))
          have BX5 := BX.below bE
          have P5 := P6.below bE
          have Z5 := Zr.below bE
          have hb5 := belowThen hb bE
          have hs5 : w3.heap.size ≤ (w5.alloc (.cells #[.int .i64 ex, .int .i64 ew, .bool eh, .string ed] 66)).heap.size := Nat.le_trans hsz bE.size
          have RE5 := dUnhide RE (w5.alloc (.cells #[.int .i64 ex, .int .i64 ew, .bool eh, .string ed] 66)) 66
          rw [World.size_alloc] at RE5
          have o0 := (BX5.2 0 _ rfl).1
          clear ER hT b5 bE BX P6 Zr hb hsz
          go_wp2_with (at_builtin; refine wp_apR elemE rfl _ _ rfl w3.heap.size (.slice a6 es.length c6) es rfl (P5.below (ba _ _)) _ [⟨ex, ew, eh, ed⟩] rfl RE5 ?c1 ?c2 ?c3 ?_)
          case c1 => (try simp); omega
          case c2 => (try simp); omega
          case c3 => (try simp at hs5 ⊢); omega
          intro v7 w7 P7 g7 t7
          have TBb : touch (.slice a6 es.length c6) ≠ some bo := touch_base elemE P5 (by omega)
          have TBr : touch (.slice a6 es.length c6) ≠ some w.heap.size := touch_base elemE P5 (by omega)
          have BX7 := (BX5.below (ba _ (.cells #[.int .i64 ex, .int .i64 ew, .bool eh, .string ed] 66))).grown g7 TBb
          have Z7 := (Z5.below (ba _ (.cells #[.int .i64 ex, .int .i64 ew, .bool eh, .string ed] 66))).grown g7 TBr
          have hb7 := (belowThen hb5 (ba _ (.cells #[.int .i64 ex, .int .i64 ew, .bool eh, .string ed] 66))).grown g7 (by have := hb5.size; simp at this ⊢; omega) (fun j hj => by have := (P5.touched elemE hj).1; omega)
          have hs7 : w3.heap.size ≤ w7.heap.size := by have := g7.size; simp at this hs5; omega
          have T7 : touch v7 ≠ some bo := touch_base elemE P7 (by omega)
          obtain ⟨a7, c7, rfl⟩ := ApR.slice elemE P7
          obtain ⟨o7, f7⟩ := BX7.2 0 _ rfl
          have hln : (es ++ [(⟨ex, ew, eh, ed⟩ : Ent)]).length = es.length + 1 := by simp
          rw [hln] at P7 T7 ⊢
          have BX8 := dHide (BX7.put 0 (.slice a7 (es.length + 1) c7))
          have P8 := dHide (ApR.put elemE P7 T7 (o' := 0) (.slice a7 (es.length + 1) c7))
          have Z8 := dHide (Z7.far (b' := bo) (o := 0) (by omega) (.slice a7 (es.length + 1) c7))
          have hb8 := dHide (hb7.setCell (p := ⟨bo, 0, none⟩) (by simp only; omega) (.slice a7 (es.length + 1) c7))
          have HS7 := dHide hs7
          have HS3 := dHide hs3
          have HKN : Hid (k + 1 ≤ n) := show k + 1 ≤ n by omega
          clear hln P7 T7 BX7 Z7 hb7 BX5 P5 Z5 hb5 g7 t7 TBb TBr o0 RE RE5 hs5 hs7 hs3
          go_wp2
          go_roundw
          case rel => exact ⟨k + 1, q2, fine, _, _, rfl, rfl, by go_num, dUnhide HKN, hN, hq2, dUnhide BX8, by rw [dUnhide HS3]; exact dUnhide P8, dUnhide Z8, dUnhide hb8, by simpa using dUnhide HS7⟩
          case measure => have := dUnhide HKN; simp [intOf]; omega
        · have hkn : k = n := by omega
          obtain ⟨ho2, hrk⟩ : ok2 = true ∧ readK bs at2 k = some (es, q) := by
            rcases dUnhide hst with ⟨-, h⟩ | ⟨h, -⟩
            · exact h
            · cases h
          have eR : M = readE bs lk (some (es, q)) := by
            rcases dUnhide eM with ⟨-, -, -, h⟩ | ⟨h, -⟩
            · rw [h, ← hkn, hrk]
            · rw [ho2] at h; cases h
          obtain ⟨-, hE, -, -⟩ := readK_inv hat2 hrk
          have RY : Hid (q = bs.length ∧ stP ⟨es, [], lk⟩ → M = (⟨es, [], lk⟩, true)) := fun h => by rw [eR]; exact if_pos h
          have RN : Hid (¬ (q = bs.length ∧ stP ⟨es, [], lk⟩) → M = (zeroSt, false)) := fun h => by rw [eR]; exact if_neg h
          have hfS : fitS ⟨es, [], lk⟩ := ⟨fun e he => entP_fits (hE e he), fun e he => by (cases he), by simp only; omega, by simp only; omega⟩
          have OS : OwS wr w3.heap.size (.agg #[v6, .slice none 0 0, .int .i64 (lk : Int)]) ⟨es, [], lk⟩ := ⟨_, _, rfl, P6, .inl ⟨rfl, none, rfl⟩, by
            by_cases ht : touch v6 = none
            · exact .inl ht
            · exact .inr (fun e => ht e)⟩
          have CO := dHide (specStoreOk_any _ ⟨es, [], lk⟩ wr OS.rs hfS)
          obtain ⟨a6, c6, rfl⟩ := ApR.slice elemE P6
          obtain ⟨o0, -⟩ := BX.2 0 _ rfl
          obtain ⟨o1, -⟩ := BX.2 1 _ rfl
          obtain ⟨o2, -⟩ := BX.2 2 _ rfl
          have HOS := dHide OS
          have HBX := dHide BX
          clear hst eM eR hE hfS OS P6 ER hkn ho2 hrk BX
          by_cases hqe : (q : Int) = (bs.length : Int)
          · have hqe' : q = bs.length := by omega
            by_cases hst : stP ⟨es, [], lk⟩
            · have eM' := dUnhide RY ⟨hqe', hst⟩
              have HST := dHide hst
              clear RY RN hqe hst FZ
              subst hqe'
              go_wp2_with fail
              refine (dUnhide CO).mono ?_
              rintro r w5 ⟨hr, b5⟩
              obtain rfl := hr.of_yes (dUnhide HST)
              have O5 := (dUnhide HOS).below b5
              have Z5 := Zr.below b5
              have B5 := (dUnhide HBX).below b5
              have hb5 := belowThen hb b5
              obtain ⟨p0, -⟩ := B5.2 0 _ rfl
              obtain ⟨p1, -⟩ := B5.2 1 _ rfl
              obtain ⟨p2, -⟩ := B5.2 2 _ rfl
              obtain ⟨z0, f0⟩ := Z5.2 0 _ rfl
              obtain ⟨z1, f1⟩ := Z5.2 1 _ rfl
              obtain ⟨z2, f2⟩ := Z5.2 2 _ rfl
              obtain ⟨hx, hO⟩ := OwS.into O5 (rb := w.heap.size) (by omega) Z5
              have BB := dHide (below_three hb5 (Nat.le_refl _) (.slice a6 es.length c6) (.slice none 0 0) (.int .i64 (lk : Int)))
              have HX := dHide hx
              have HO := dHide (hO.mono (base' := w.heap.size) (by omega))
              clear hr b5 O5 Z5 B5 hb5 hx hO CO HOS HBX o0 o1 o2 Zr hb
              go_wp2
              generalize ((w5.setCell ⟨w.heap.size, 0, none⟩ (.slice a6 es.length c6)).setCell ⟨w.heap.size, 1, none⟩ (.slice none 0 0)).setCell ⟨w.heap.size, 2, none⟩ (.int .i64 (lk : Int)) = V at *
              have q0 := dUnhide HX 0 _ rfl
              have q1 := dUnhide HX 1 _ rfl
              have q2 := dUnhide HX 2 _ rfl
              clear z0 z1 z2 f0 f1 f2 p0 p1 p2
              subst eM'
              refine bodyPost_ret (v := .tuple #[.agg #[.slice a6 es.length c6, .slice none 0 0, .int .i64 (lk : Int)], .bool true]) (by simp [results, Try.results14, go_sem, q0, q1, q2]) rfl ⟨⟨_, rfl, dUnhide HO⟩, dUnhide BB⟩
            · have eM' := dUnhide RN fun h => hst h.2
              have HST := dHide hst
              clear RY RN hqe hst
              subst hqe'
              go_wp2_with fail
              refine (dUnhide CO).mono ?_
              rintro r w5 ⟨hr, b5⟩
              obtain rfl := hr.of_no (dUnhide HST)
              have Z5 := Zr.below b5
              have hb5 := belowThen hb b5
              obtain ⟨V, hV, hx, hO, hB⟩ := dUnhide FZ w5 Z5 hb5
              obtain ⟨z0, f0⟩ := Z5.2 0 _ rfl
              obtain ⟨z1, f1⟩ := Z5.2 1 _ rfl
              obtain ⟨z2, f2⟩ := Z5.2 2 _ rfl
              clear hr b5 Z5 hb5 CO HOS HBX o0 o1 o2 Zr hb FZ
              go_wp2
              rw [← hV]
              have q0 := hx 0 _ rfl
              have q1 := hx 1 _ rfl
              have q2 := hx 2 _ rfl
              clear hV hx z0 z1 z2 f0 f1 f2
              subst eM'
              refine bodyPost_ret (v := .tuple #[.agg #[.slice none 0 0, .slice none 0 0, .int .i64 0], .bool false]) (by simp [results, Try.results14, go_sem, q0, q1, q2]) rfl ⟨⟨_, rfl, hO⟩, hB⟩
          · have hqn : ¬ q = bs.length := fun h => hqe (by rw [h])
            have eM' := dUnhide RN fun h => hqe (by rw [h.1])
            obtain ⟨V, hV, hx, hO, hB⟩ := dUnhide FZ wr Zr hb
            obtain ⟨z0, f0⟩ := Zr.2 0 _ rfl
            obtain ⟨z1, f1⟩ := Zr.2 1 _ rfl
            obtain ⟨z2, f2⟩ := Zr.2 2 _ rfl
            clear RY RN CO HOS HBX FZ Zr
            go_wp2
            rw [← hV]
            have q0 := hx 0 _ rfl
            have q1 := hx 1 _ rfl
            have q2 := hx 2 _ rfl
            clear hV hx z0 z1 z2 f0 f1 f2
            subst eM'
            refine bodyPost_ret (v := .tuple #[.agg #[.slice none 0 0, .slice none 0 0, .int .i64 0], .bool false]) (by simp [results, Try.results14, go_sem, q0, q1, q2]) rfl ⟨⟨_, rfl, hO⟩, hB⟩
end Go.Proofs.Ytognmmmplmideaa
