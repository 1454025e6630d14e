/- impl's StoreRead. -/
import Derived.Test.YtognmmmplmideaaBuI
import Derived.Test.YtognmmmplmideaaImplC
import Derived.Test.YtognmmmplmideaaStL
import Derived.Test.YtognmmmplmideaaStO
namespace Go.Proofs.Ytognmmmplmideaa
open Go.ChangeShapes Go.WideShapes Go.ChangeAt Go.RowKit
set_option linter.unusedVariables false
set_option linter.unusedSimpArgs false
set_option maxRecDepth 100000

/-- What is there while bytes are read: the answer's block, the reader's, and nothing else is turned. -/
def RS (w : World) (v : Value) (W : World) : Prop := BxZ W w.heap.size w.heap.size [.slice none 0 0, .slice none 0 0, .int .i64 0] ∧ Bx W (w.heap.size + 1 + 1) [v, .pointer (some ⟨w.heap.size + 1, 0, none⟩)] ∧ Below w.heap.size w W ∧ w.heap.size + 1 + 1 < W.heap.size
theorem RS.below {w W W' : World} {v : Value} (h : RS w v W) (hb : Below W.heap.size W W') : RS w v W' := ⟨h.1.below hb, h.2.1.below hb, belowThen h.2.2.1 hb, Nat.lt_of_lt_of_le h.2.2.2 hb.size⟩
theorem RS.drawn {w W W' : World} {v : Value} (h : RS w v W) (hd : Drawn (w.heap.size + 1) W W') : RS w v W' := ⟨h.1.drawn hd (by omega), h.2.1.drawn hd (by omega), hd.below h.2.2.1 h.2.2.1.size (by omega), Nat.lt_of_lt_of_le h.2.2.2 hd.size⟩
theorem RS.grown {w W W' : World} {v : Value} {row : Option Nat} (h : RS w v W) (g : W.grownBy W' row) (hr : ∀ k, row = some k → w.heap.size + 1 + 1 < k) : RS w v W' :=
  ⟨h.1.grown g (fun e => by have := hr _ e; omega), h.2.1.grown g (fun e => by have := hr _ e; omega), h.2.2.1.grown g h.2.2.1.size (fun k hk => by have := hr k hk; omega), Nat.lt_of_lt_of_le h.2.2.2 g.size⟩
theorem RS.setCell {w W : World} {v : Value} {b o : Nat} (h : RS w v W) (hb : w.heap.size + 1 + 1 < b) (u : Value) : RS w v (W.setCell ⟨b, o, none⟩ u) :=
  h.grown (grown_set W b o u) (fun k hk => by cases hk; exact hb)
theorem grown_of_drawn {bk : Nat} {W W' : World} (h : Drawn bk W W') : W.grownBy W' (some bk) := ⟨h.os, h.tape, h.output, h.size, fun k hk hn => h.block k hk (fun e => hn (by rw [e]))⟩
theorem Plc.grown {W W' : World} {pk : Nat} {x : Int} {row : Option Nat} (h : Plc W pk x) (g : W.grownBy W' row) (hr : row ≠ some pk) : Plc W' pk x := by
  have e := g.block pk (dCell_lt h.1) (fun e => hr e.symm)
  exact ⟨(World.cell?_of_block (a := ⟨pk, 0, none⟩) e).trans h.1, (World.frozen?_of_block (a := ⟨pk, 0, none⟩) e).trans h.2⟩
theorem read_many {bs : List UInt8} {lk p n : Nat} (hp : p ≤ bs.length) (h : 200 < n) : readE bs lk (readK bs p n) = (zeroSt, false) := by
  cases hr : readK bs p n with
  | none => rfl
  | some o =>
    obtain ⟨es, q⟩ := o
    have h1 := (readK_inv hp hr).1
    unfold readE
    simp only
    rw [if_neg]
    rintro ⟨-, h2⟩
    have := h2.1.1
    simp only at this
    omega
theorem readK_some {bs : List UInt8} {p k q : Nat} {es : List Ent} (h : readK bs p k = some (es, q)) {e : Ent} {q' : Nat} (hz : readZ bs (q : Int) = some (e, q')) : readK bs p (k + 1) = some (es ++ [e], q') := by
  unfold readK
  rw [h]
  simp only
  rw [hz]
theorem readK_stop {bs : List UInt8} {p k q : Nat} {es : List Ent} (h : readK bs p k = some (es, q)) (hz : readZ bs (q : Int) = none) : readK bs p (k + 1) = none := by
  unfold readK
  rw [h]
  simp only
  rw [hz]
open Classical in
theorem readE_yes {bs : List UInt8} {lk q : Nat} {es : List Ent} (h1 : q = bs.length) (h2 : stP ⟨es, [], lk⟩) : readE bs lk (some (es, q)) = (⟨es, [], lk⟩, true) := if_pos ⟨h1, h2⟩
open Classical in
theorem readE_no {bs : List UInt8} {lk q : Nat} {es : List Ent} (h : ¬ (q = bs.length ∧ stP ⟨es, [], lk⟩)) : readE bs lk (some (es, q)) = (zeroSt, false) := if_neg h
set_option maxHeartbeats 8000000 in
theorem implStoreRead_any (v : Value) (bs : List UInt8) (w : World) (hv : Bs w v bs) (hl : bs.length ≤ 1048576) :
    Calls Try.prog 11 #[v] w fun r w' => (∃ u, r = .returned (.tuple #[u, .bool (readM bs).2]) ∧ OwS w' w.heap.size u (readM bs).1) ∧ Below w.heap.size w w' := by
  have ba : ∀ (w : World) o, Below w.heap.size w (w.alloc o) := fun w o => (Below.refl _ _).alloc (Nat.le_refl _) o
  have hne : bs = [] ∨ blockOf v ≠ w.heap.size + 1 := by
    rcases List.eq_nil_or_concat bs with h | ⟨l, a, h⟩
    · exact .inl h
    · exact .inr (by have := hv.lt (by rw [h]; simp); omega)
  have GN := dHide fun x W (hR : RS w v W) (hp : Plc W (w.heap.size + 1) x) => num_any v bs (w.heap.size + 1) x W (hv.below hR.2.2.1) hp hne
  have GE := dHide fun x W (hR : RS w v W) (hp : Plc W (w.heap.size + 1) x) => entry_any v bs (w.heap.size + 1) x W (hv.below hR.2.2.1) (by omega) hp hne
  obtain ⟨h0, a, cap, rfl, -⟩ := hv
  have RM : Hid (readM bs = match getZ bs 0 with | none => (zeroSt, false) | some (a, k1) => match getZ bs (k1 : Int) with | none => (zeroSt, false) | some (n, k2) => readE bs a (readK bs (k1 + k2) n)) := rfl
  generalize readM bs = M at *
  have R0 : RS w (.slice a bs.length cap) (((w.alloc (.cells #[.slice none 0 0, .slice none 0 0, .int .i64 0] 26)).alloc (.cells #[.int .i64 0] 3)).alloc (.cells #[.slice a bs.length cap, .pointer (some ⟨w.heap.size + 1, 0, none⟩)] 72)) := by
    refine ⟨((BxZ.new (B := w.heap.size) w [.slice none 0 0, .slice none 0 0, .int .i64 0] 26 (Nat.le_refl _)).below (ba _ _)).below (ba _ _), ?_, belowThen (belowThen (ba w _) (ba _ _)) (ba _ _), by simp⟩
    have e : ((w.alloc (.cells #[.slice none 0 0, .slice none 0 0, .int .i64 0] 26)).alloc (.cells #[.int .i64 0] 3)).heap.size = w.heap.size + 1 + 1 := by simp
    have := Bx.new ((w.alloc (.cells #[.slice none 0 0, .slice none 0 0, .int .i64 0] 26)).alloc (.cells #[.int .i64 0] 3)) [.slice a bs.length cap, .pointer (some ⟨w.heap.size + 1, 0, none⟩)] 72
    rw [e] at this
    exact this
  have P0 := (plc_new (w.alloc (.cells #[.slice none 0 0, .slice none 0 0, .int .i64 0] 26)) 0 3).below (ba _ (.cells #[.slice a bs.length cap, .pointer (some ⟨w.heap.size + 1, 0, none⟩)] 72))
  have e1 : (w.alloc (.cells #[.slice none 0 0, .slice none 0 0, .int .i64 0] 26)).heap.size = w.heap.size + 1 := by simp
  rw [e1] at P0
  clear e1 hne
  unfold rdr at GN GE
  go_enter Try.func11, Try.ntmps11
  go_wp2_with fail
  generalize ((w.alloc (.cells #[.slice none 0 0, .slice none 0 0, .int .i64 0] 26)).alloc (.cells #[.int .i64 0] 3)).alloc (.cells #[.slice a bs.length cap, .pointer (some ⟨w.heap.size + 1, 0, none⟩)] 72) = w0 at *
  refine (dUnhide GN 0 w0 R0 P0).mono ?_
  rintro r w1 ⟨rfl, hp1, mv1⟩
  have R1 := R0.drawn mv1.1
  cases hg1 : getZ bs 0 with
  | none =>
    obtain ⟨y, hy⟩ := mv1.2
    have eM : M = (zeroSt, false) := by rw [dUnhide RM, hg1]
    have CN := dHide (dUnhide GN y w1 R1 hy)
    clear RM hp1 mv1 R0 P0 hg1 GE hy
    rw [show numT none = .tuple #[.int .i64 0, .bool false] from rfl]
    rw [numT_parts] at CN
    generalize (numV (getZ bs y) : Int) = nv at *
    generalize (getZ bs y).isSome = nb at *
    have r0 := R1.2.1 0 _ rfl
    have r1 := R1.2.1 1 _ rfl
    go_wp2_with fail
    refine (dUnhide CN).mono ?_
    rintro r w2 ⟨rfl, -, mv2⟩
    have R2 := R1.drawn mv2.1
    clear R1 mv2 CN GN r0 r1
    obtain ⟨Zf, -, Bf, -⟩ := R2
    obtain ⟨z0, f0⟩ := Zf.2 0 _ rfl
    obtain ⟨z1, f1⟩ := Zf.2 1 _ rfl
    obtain ⟨z2, f2⟩ := Zf.2 2 _ rfl
    have HX := dHide ((((Zf.put 0 (.slice none 0 0)).put 1 (.slice none 0 0)).put 2 (.int .i64 0)).bx)
    have HB := dHide (below_three (rb := w.heap.size) Bf (Nat.le_refl _) (.slice none 0 0) (.slice none 0 0) (.int .i64 0))
    clear Zf Bf 
    subst eM
    go_wp2
    generalize ((w2.setCell ⟨w.heap.size, 0, none⟩ (.slice none 0 0)).setCell ⟨w.heap.size, 1, none⟩ (.slice none 0 0)).setCell ⟨w.heap.size, 2, none⟩ (.int .i64 0) = V at *
    have q0 := dUnhide HX 0 _ rfl
    have q1 := dUnhide HX 1 _ rfl
    have q2 := dUnhide HX 2 _ rfl
    clear z0 z1 z2 f0 f1 f2
    refine bodyPost_ret (v := .tuple #[.agg #[.slice none 0 0, .slice none 0 0, .int .i64 0], .bool false]) (by simp [results, Try.results11, go_sem, q0, q1, q2]) rfl ⟨⟨_, rfl, OwS.zero _ _⟩, dUnhide HB⟩
  | some o1 =>
    obtain ⟨lk, k1⟩ := o1
    have hp1' := hp1 lk k1 hg1
    simp only [Int.toNat_zero, Nat.zero_add] at hp1'
    have hlk := getZ_bd hg1
    have hk1 : k1 ≤ bs.length := by have := getZ_end (x := 0) hg1; omega
    have RM1 : Hid (M = match getZ bs (k1 : Int) with | none => (zeroSt, false) | some (n, k2) => readE bs lk (readK bs (k1 + k2) n)) := by rw [Hid, dUnhide RM, hg1]
    have CN := dHide (dUnhide GN (k1 : Int) w1 R1 hp1')
    clear RM hp1 mv1 R0 P0 hg1
    rw [show numT (some (lk, k1)) = .tuple #[.int .i64 (lk : Int), .bool true] from rfl]
    have r0 := R1.2.1 0 _ rfl
    have r1 := R1.2.1 1 _ rfl
    go_wp2_with fail
    refine (dUnhide CN).mono ?_
    rintro r w2 ⟨rfl, hp2, mv2⟩
    have R2 := R1.drawn mv2.1
    clear R1 r0 r1 CN hp1' GN
    cases hg2 : getZ bs (k1 : Int) with
    | none =>
      have eM : M = (zeroSt, false) := by rw [dUnhide RM1, hg2]
      clear RM1 hp2 mv2 hg2 GE
      rw [show numT none = .tuple #[.int .i64 0, .bool false] from rfl]
      obtain ⟨Zf, -, Bf, -⟩ := R2
      obtain ⟨z0, f0⟩ := Zf.2 0 _ rfl
      obtain ⟨z1, f1⟩ := Zf.2 1 _ rfl
      obtain ⟨z2, f2⟩ := Zf.2 2 _ rfl
      have HX := dHide ((((Zf.put 0 (.slice none 0 0)).put 1 (.slice none 0 0)).put 2 (.int .i64 0)).bx)
      have HB := dHide (below_three (rb := w.heap.size) Bf (Nat.le_refl _) (.slice none 0 0) (.slice none 0 0) (.int .i64 0))
      clear Zf Bf 
      subst eM
      go_wp2
      generalize ((w2.setCell ⟨w.heap.size, 0, none⟩ (.slice none 0 0)).setCell ⟨w.heap.size, 1, none⟩ (.slice none 0 0)).setCell ⟨w.heap.size, 2, none⟩ (.int .i64 0) = V at *
      have q0 := dUnhide HX 0 _ rfl
      have q1 := dUnhide HX 1 _ rfl
      have q2 := dUnhide HX 2 _ rfl
      clear z0 z1 z2 f0 f1 f2
      refine bodyPost_ret (v := .tuple #[.agg #[.slice none 0 0, .slice none 0 0, .int .i64 0], .bool false]) (by simp [results, Try.results11, go_sem, q0, q1, q2]) rfl ⟨⟨_, rfl, OwS.zero _ _⟩, dUnhide HB⟩
    | some o2 =>
      obtain ⟨n, k2⟩ := o2
      have hp2' := hp2 n k2 hg2
      rw [Int.toNat_natCast] at hp2'
      have hk2 := getZ_end hg2
      have hnb := getZ_bd hg2
      have RM2 : Hid (M = readE bs lk (readK bs (k1 + k2) n)) := by rw [Hid, dUnhide RM1, hg2]
      clear RM1 hp2 mv2 hg2
      rw [show numT (some (n, k2)) = .tuple #[.int .i64 (n : Int), .bool true] from rfl]
      generalize k1 + k2 = p at *
      by_cases hn : (200 : Int) < (n : Int)
      · have eM : M = (zeroSt, false) := by rw [dUnhide RM2]; exact read_many hk2 (by omega)
        have hd : decide ((200 : Int) < (n : Int)) = true := decide_eq_true hn
        clear RM2 hp2' GE
        obtain ⟨Zf, -, Bf, -⟩ := R2
        obtain ⟨z0, f0⟩ := Zf.2 0 _ rfl
        obtain ⟨z1, f1⟩ := Zf.2 1 _ rfl
        obtain ⟨z2, f2⟩ := Zf.2 2 _ rfl
        have HX := dHide ((((Zf.put 0 (.slice none 0 0)).put 1 (.slice none 0 0)).put 2 (.int .i64 0)).bx)
        have HB := dHide (below_three (rb := w.heap.size) Bf (Nat.le_refl _) (.slice none 0 0) (.slice none 0 0) (.int .i64 0))
        clear Zf Bf 
        subst eM
        go_wp2
        generalize ((w2.setCell ⟨w.heap.size, 0, none⟩ (.slice none 0 0)).setCell ⟨w.heap.size, 1, none⟩ (.slice none 0 0)).setCell ⟨w.heap.size, 2, none⟩ (.int .i64 0) = V at *
        have q0 := dUnhide HX 0 _ rfl
        have q1 := dUnhide HX 1 _ rfl
        have q2 := dUnhide HX 2 _ rfl
        clear z0 z1 z2 f0 f1 f2
        refine bodyPost_ret (v := .tuple #[.agg #[.slice none 0 0, .slice none 0 0, .int .i64 0], .bool false]) (by simp [results, Try.results11, go_sem, q0, q1, q2]) rfl ⟨⟨_, rfl, OwS.zero _ _⟩, dUnhide HB⟩
      · have hd : decide ((200 : Int) < (n : Int)) = false := decide_eq_false hn
        have bN := ba w2 (.cells #[.slice none 0 0, .slice none 0 0, .int .i64 (lk : Int)] 26)
        have R3 := R2.below bN
        have P3 := hp2'.below bN
        have N3 := BxZ.new (B := w.heap.size) w2 [.slice none 0 0, .slice none 0 0, .int .i64 (lk : Int)] 26 R2.2.2.1.size
        have hbo : w.heap.size + 1 + 1 < w2.heap.size := R2.2.2.2
        have hs3 : w2.heap.size < (w2.alloc (.cells #[.slice none 0 0, .slice none 0 0, .int .i64 (lk : Int)] 26)).heap.size := by simp
        clear R2 hp2' bN
        go_wp2
        go_loopw [39] (fun x wr => ∃ (k : Nat) (es : List Ent) (q : Nat) (kv : Value), x = .int .i64 (k : Int) ∧ k ≤ n ∧ Hid (readK bs p k = some (es, q)) ∧ RS w (.slice a bs.length cap) wr ∧ Plc wr (w.heap.size + 1) (q : Int) ∧ BxZ wr w.heap.size w2.heap.size [kv, .slice none 0 0, .int .i64 (lk : Int)] ∧ ApE wr (w2.heap.size + 1) kv es ∧ w2.heap.size < wr.heap.size) (fun x _ => n - (intOf x).toNat)
        case atStart => exact ⟨0, [], p, .slice none 0 0, rfl, Nat.zero_le _, rfl, R3, P3, N3, .inl ⟨rfl, none, rfl⟩, hs3⟩
        case round =>
          obtain ⟨k, es, q, kv, rfl, hk, hK, R, PL, N, P, hsz⟩ := hrel
          clear R3 P3 N3 hs3
          have hes : es.length ≤ k := Nat.le_of_eq (readK_inv hk2 (dUnhide hK)).1
          have HEE := dHide (readK_inv hk2 (dUnhide hK)).2.1
          obtain ⟨ka, kc, rfl⟩ := ApR.slice elemE P
          by_cases hlt : (k : Int) < (n : Int)
          · have CE := dHide (dUnhide GE (q : Int) wr R PL)
            have r0 := R.2.1 0 _ rfl
            have r1 := R.2.1 1 _ rfl
            go_wp2_with fail
            refine (dUnhide CE).mono ?_
            rintro r w4 ⟨m, rfl, hm, mv⟩
            have R4 := R.drawn mv.1
            have N4 := N.drawn mv.1 (by omega)
            have P4 := ApR.kept elemE P (grown_of_drawn mv.1) (.inr (touch_base elemE P (by omega)))
            have hsz4 := Nat.lt_of_lt_of_le hsz mv.1.size
            clear R PL N P r0 r1 CE mv
            cases hz : readZ bs (q : Int) with
            | none =>
              have eM : M = (zeroSt, false) := by rw [dUnhide RM2, readK_none (readK_stop (dUnhide hK) hz) (by omega)]; rfl
              obtain ⟨yx, yw, yh, yd⟩ := m
              unfold Ent.val
              simp only [Option.isSome_none]
              have R5 := R4.below (ba _ (.cells #[.int .i64 yx, .int .i64 yw, .bool yh, .string yd] 66))
              clear R4 N4 P4 hm hz RM2 hK HEE GE hsz4
              obtain ⟨Zf, -, Bf, -⟩ := R5
              obtain ⟨z0, f0⟩ := Zf.2 0 _ rfl
              obtain ⟨z1, f1⟩ := Zf.2 1 _ rfl
              obtain ⟨z2, f2⟩ := Zf.2 2 _ rfl
              have HX := dHide ((((Zf.put 0 (.slice none 0 0)).put 1 (.slice none 0 0)).put 2 (.int .i64 0)).bx)
              have HB := dHide (below_three (rb := w.heap.size) Bf (Nat.le_refl _) (.slice none 0 0) (.slice none 0 0) (.int .i64 0))
              clear Zf Bf 
              subst eM
              go_wp2
              generalize (((w4.alloc (.cells #[.int .i64 yx, .int .i64 yw, .bool yh, .string yd] 66)).setCell ⟨w.heap.size, 0, none⟩ (.slice none 0 0)).setCell ⟨w.heap.size, 1, none⟩ (.slice none 0 0)).setCell ⟨w.heap.size, 2, none⟩ (.int .i64 0) = V at *
              have q0 := dUnhide HX 0 _ rfl
              have q1 := dUnhide HX 1 _ rfl
              have q2 := dUnhide HX 2 _ rfl
              clear z0 z1 z2 f0 f1 f2
              refine bodyPost_ret (v := .tuple #[.agg #[.slice none 0 0, .slice none 0 0, .int .i64 0], .bool false]) (by simp [results, Try.results11, go_sem, q0, q1, q2]) rfl ⟨⟨_, rfl, OwS.zero _ _⟩, dUnhide HB⟩
            | some o =>
              obtain ⟨e, q'⟩ := o
              obtain ⟨rfl, hp4⟩ := hm e q' hz
              have hK' := dHide (readK_some (dUnhide hK) hz)
              have RO : Hid (∀ (w : World) T, Rw 4 Ent.cl (w.alloc (.cells #[.int .i64 e.pl, .int .i64 e.wave, .bool e.hole, .string e.data] T)) (.slice (some ⟨w.heap.size, 0, none⟩) 1 1) [e]) := fun w T => rw_one w e T 1 (by omega)
              obtain ⟨yx, yw, yh, yd⟩ := e
              unfold Ent.val
              simp only [Option.isSome_some]
              simp only at RO
              have b5 := ba w4 (.cells #[.int .i64 yx, .int .i64 yw, .bool yh, .string yd] 66)
              have b6 := ba (w4.alloc (.cells #[.int .i64 yx, .int .i64 yw, .bool yh, .string yd] 66)) (.cells #[.int .i64 yx, .int .i64 yw, .bool yh, .string yd] 66)
              have R6 := (R4.below b5).below b6
              have Q6 := (hp4.below b5).below b6
              have N5 := N4.below b5
              have N6 := N5.below b6
              have P6 := (P4.below b5).below b6
              have hsz6 : w2.heap.size < ((w4.alloc (.cells #[.int .i64 yx, .int .i64 yw, .bool yh, .string yd] 66)).alloc (.cells #[.int .i64 yx, .int .i64 yw, .bool yh, .string yd] 66)).heap.size := by simp; omega
              have RO1 := dUnhide RO (w4.alloc (.cells #[.int .i64 yx, .int .i64 yw, .bool yh, .string yd] 66)) 66
              have eS : (w4.alloc (.cells #[.int .i64 yx, .int .i64 yw, .bool yh, .string yd] 66)).heap.size = w4.heap.size + 1 := by simp
              rw [eS] at RO1
              have HRO := dHide RO1
              have HP6 := dHide P6
              have hln : (es ++ [(⟨yx, yw, yh, yd⟩ : Ent)]).length = es.length + 1 := by simp
              have FIN : Hid (∀ w7 a7 c7, ApE w7 (w2.heap.size + 1) (.slice a7 (es ++ [(⟨yx, yw, yh, yd⟩ : Ent)]).length c7) (es ++ [⟨yx, yw, yh, yd⟩]) → ((w4.alloc (.cells #[.int .i64 yx, .int .i64 yw, .bool yh, .string yd] 66)).alloc (.cells #[.int .i64 yx, .int .i64 yw, .bool yh, .string yd] 66)).grownBy w7 (touch (.slice ka es.length kc)) →
                  BxZ w7 w.heap.size w2.heap.size [.slice ka es.length kc, .slice none 0 0, .int .i64 (lk : Int)] ∧ RS w (.slice a bs.length cap) (w7.setCell ⟨w2.heap.size, 0, none⟩ (.slice a7 (es ++ [(⟨yx, yw, yh, yd⟩ : Ent)]).length c7)) ∧ Plc (w7.setCell ⟨w2.heap.size, 0, none⟩ (.slice a7 (es ++ [(⟨yx, yw, yh, yd⟩ : Ent)]).length c7)) (w.heap.size + 1) (q' : Int) ∧ BxZ (w7.setCell ⟨w2.heap.size, 0, none⟩ (.slice a7 (es ++ [(⟨yx, yw, yh, yd⟩ : Ent)]).length c7)) w.heap.size w2.heap.size [.slice a7 (es ++ [(⟨yx, yw, yh, yd⟩ : Ent)]).length c7, .slice none 0 0, .int .i64 (lk : Int)] ∧ ApE (w7.setCell ⟨w2.heap.size, 0, none⟩ (.slice a7 (es ++ [(⟨yx, yw, yh, yd⟩ : Ent)]).length c7)) (w2.heap.size + 1) (.slice a7 (es ++ [(⟨yx, yw, yh, yd⟩ : Ent)]).length c7) (es ++ [⟨yx, yw, yh, yd⟩]) ∧ w2.heap.size < (w7.setCell ⟨w2.heap.size, 0, none⟩ (.slice a7 (es ++ [(⟨yx, yw, yh, yd⟩ : Ent)]).length c7)).heap.size) := fun w7 a7 c7 P7 g7 => by
                have tb : ∀ j, touch (.slice ka es.length kc) = some j → w2.heap.size + 1 ≤ j := fun j hj => (P6.touched elemE hj).1
                have N7 := N6.grown g7 (fun e => by have := tb _ e; omega)
                have R7 := R6.grown g7 (fun j hj => by have := tb j hj; omega)
                have Q7 := Q6.grown g7 (fun e => by have := tb _ e; omega)
                refine ⟨N7, R7.setCell (by omega) _, Q7.grown (grown_set _ _ _ _) (by simp; omega), N7.put 0 _, ApR.far elemE P7 (by omega) _, ?_⟩
                rw [World.size_setCell]
                exact Nat.lt_of_lt_of_le hsz6 g7.size
              obtain ⟨n0, f0⟩ := N5.2 0 _ rfl
              clear R4 N4 P4 hm hz hp4 b5 b6 R6 Q6 N5 N6 P6 RO RO1 eS hK GE
              go_wp2_with (at_builtin; refine wp_apR elemE rfl _ _ rfl (w2.heap.size + 1) _ es rfl (dUnhide HP6) _ [⟨yx, yw, yh, yd⟩] rfl (dUnhide HRO) (by simp; omega) (by simp; omega) (by simp; omega) ?_; intro v7 w7 P7 g7 t7; obtain ⟨a7, c7, rfl⟩ := ApR.slice elemE P7; obtain ⟨N7, F7⟩ := dUnhide FIN w7 a7 c7 P7 g7; have HF := dHide F7; obtain ⟨n0, f0⟩ := N7.2 0 _ rfl; clear N7 F7 P7 g7 t7 FIN HP6 HRO)
              go_roundw
              case rel =>
                have HF0 := dUnhide HF
                rw [hln] at HF0
                obtain ⟨F1, F2, F3, F4, F5⟩ := HF0
                exact ⟨k + 1, _, q', _, by go_num, by omega, hK', F1, F2, F3, F4, F5⟩
              case measure => simp [intOf]; omega
          · obtain rfl : k = n := by omega
            have RM3 : Hid (M = readE bs lk (some (es, q))) := by rw [Hid, dUnhide RM2, dUnhide hK]
            have pq := PL.1
            obtain ⟨n0, -⟩ := N.2 0 _ rfl
            obtain ⟨n1, -⟩ := N.2 1 _ rfl
            obtain ⟨n2, -⟩ := N.2 2 _ rfl
            clear RM2 hK GE
            by_cases hq : q = bs.length
            · have hfS : fitS ⟨es, [], (lk : Int)⟩ := ⟨fun e he => entP_fits (dUnhide HEE e he), fun e he => by (cases he), by simp only; omega, by simp only; omega⟩
              have C1 := dHide (implStoreOk_any (.agg #[.slice ka es.length kc, .slice none 0 0, .int .i64 (lk : Int)]) ⟨es, [], (lk : Int)⟩ wr ⟨_, _, rfl, (ApR.own elemE P).rw, Rw.nil _ _ _ (by omega)⟩ hfS)
              have hd : ((q : Int) != (bs.length : Int)) = false := by simp [hq]
              have RY := dHide (fun h => (dUnhide RM3).trans (readE_yes hq h))
              have RN := dHide (fun h => (dUnhide RM3).trans (readE_no (bs := bs) (lk := lk) (q := q) (es := es) h))
              clear RM3 hfS HEE PL
              go_wp2_with fail
              refine (dUnhide C1).mono ?_
              rintro r w6 ⟨hr, b6⟩
              have R6 := R.below b6
              have N6 := N.below b6
              have P6 := P.below b6
              clear R N P C1 n0 n1 n2 pq
              obtain ⟨n0, -⟩ := N6.2 0 _ rfl
              obtain ⟨n1, -⟩ := N6.2 1 _ rfl
              obtain ⟨n2, -⟩ := N6.2 2 _ rfl
              by_cases hs : stP ⟨es, [], (lk : Int)⟩
              · obtain rfl := hr.of_yes hs
                have eM := dUnhide RY hs
                have O6 : OwS w6 (w2.heap.size + 1) (.agg #[.slice ka es.length kc, .slice none 0 0, .int .i64 (lk : Int)]) ⟨es, [], (lk : Int)⟩ := ⟨_, _, rfl, P6, .inl ⟨rfl, none, rfl⟩, by
                  by_cases h : touch (.slice ka es.length kc) = none
                  · exact .inl h
                  · exact .inr h⟩
                obtain ⟨Z6, -, B6, -⟩ := R6
                obtain ⟨z0, f0⟩ := Z6.2 0 _ rfl
                obtain ⟨z1, f1⟩ := Z6.2 1 _ rfl
                obtain ⟨z2, f2⟩ := Z6.2 2 _ rfl
                obtain ⟨hx, hO⟩ := OwS.into O6 (by omega) Z6
                have HB := dHide (below_three (rb := w.heap.size) B6 (Nat.le_refl _) (.slice ka es.length kc) (.slice none 0 0) (.int .i64 (lk : Int)))
                have HX := dHide hx
                have HO := dHide (hO.mono (base' := w.heap.size) (by omega))
                clear O6 Z6 B6 hx hO N6 P6 RY RN hs hr hd
                subst eM
                go_wp2
                generalize ((w6.setCell ⟨w.heap.size, 0, none⟩ (.slice ka es.length kc)).setCell ⟨w.heap.size, 1, none⟩ (.slice none 0 0)).setCell ⟨w.heap.size, 2, none⟩ (.int .i64 (lk : Int)) = V at *
                have q0 := dUnhide HX 0 _ rfl
                have q1 := dUnhide HX 1 _ rfl
                have q2 := dUnhide HX 2 _ rfl
                clear z0 z1 z2 f0 f1 f2 n0 n1 n2
                refine bodyPost_ret (v := .tuple #[.agg #[.slice ka es.length kc, .slice none 0 0, .int .i64 (lk : Int)], .bool true]) (by simp [results, Try.results11, go_sem, q0, q1, q2]) rfl ⟨⟨_, rfl, dUnhide HO⟩, dUnhide HB⟩
              · obtain rfl := hr.of_no hs
                have eM := dUnhide RN fun h => hs h.2
                clear N6 P6 RY RN hs hr hd
                obtain ⟨Zf, -, Bf, -⟩ := R6
                obtain ⟨z0, f0⟩ := Zf.2 0 _ rfl
                obtain ⟨z1, f1⟩ := Zf.2 1 _ rfl
                obtain ⟨z2, f2⟩ := Zf.2 2 _ rfl
                have HX := dHide ((((Zf.put 0 (.slice none 0 0)).put 1 (.slice none 0 0)).put 2 (.int .i64 0)).bx)
                have HB := dHide (below_three (rb := w.heap.size) Bf (Nat.le_refl _) (.slice none 0 0) (.slice none 0 0) (.int .i64 0))
                clear Zf Bf 
                subst eM
                go_wp2
                generalize ((w6.setCell ⟨w.heap.size, 0, none⟩ (.slice none 0 0)).setCell ⟨w.heap.size, 1, none⟩ (.slice none 0 0)).setCell ⟨w.heap.size, 2, none⟩ (.int .i64 0) = V at *
                have q0 := dUnhide HX 0 _ rfl
                have q1 := dUnhide HX 1 _ rfl
                have q2 := dUnhide HX 2 _ rfl
                clear z0 z1 z2 f0 f1 f2
                refine bodyPost_ret (v := .tuple #[.agg #[.slice none 0 0, .slice none 0 0, .int .i64 0], .bool false]) (by simp [results, Try.results11, go_sem, q0, q1, q2]) rfl ⟨⟨_, rfl, OwS.zero _ _⟩, dUnhide HB⟩
            · have eM : M = (zeroSt, false) := (dUnhide RM3).trans (readE_no fun h => hq h.1)
              have hd : ((q : Int) != (bs.length : Int)) = true := by simp; omega
              clear RM3 HEE PL N P
              obtain ⟨Zf, -, Bf, -⟩ := R
              obtain ⟨z0, f0⟩ := Zf.2 0 _ rfl
              obtain ⟨z1, f1⟩ := Zf.2 1 _ rfl
              obtain ⟨z2, f2⟩ := Zf.2 2 _ rfl
              have HX := dHide ((((Zf.put 0 (.slice none 0 0)).put 1 (.slice none 0 0)).put 2 (.int .i64 0)).bx)
              have HB := dHide (below_three (rb := w.heap.size) Bf (Nat.le_refl _) (.slice none 0 0) (.slice none 0 0) (.int .i64 0))
              clear Zf Bf 
              subst eM
              go_wp2
              generalize ((wr.setCell ⟨w.heap.size, 0, none⟩ (.slice none 0 0)).setCell ⟨w.heap.size, 1, none⟩ (.slice none 0 0)).setCell ⟨w.heap.size, 2, none⟩ (.int .i64 0) = V at *
              have q0 := dUnhide HX 0 _ rfl
              have q1 := dUnhide HX 1 _ rfl
              have q2 := dUnhide HX 2 _ rfl
              clear z0 z1 z2 f0 f1 f2
              refine bodyPost_ret (v := .tuple #[.agg #[.slice none 0 0, .slice none 0 0, .int .i64 0], .bool false]) (by simp [results, Try.results11, go_sem, q0, q1, q2]) rfl ⟨⟨_, rfl, OwS.zero _ _⟩, dUnhide HB⟩
end Go.Proofs.Ytognmmmplmideaa
