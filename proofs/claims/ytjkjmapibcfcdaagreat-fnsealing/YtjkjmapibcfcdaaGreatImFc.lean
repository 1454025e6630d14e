/- slices.Insert of one entry, in a list that nobody else has: the three ways, and all in one. -/
import Derived.Test.YtjkjmapibcfcdaaGreatImFb
namespace Go.Proofs.YtjkjmapibcfcdaaGreat
open Go.ChangeShapes Go.WideShapes Go.ChangeAt Go.RowKit
set_option linter.unusedVariables false
set_option linter.unusedSimpArgs false
set_option maxRecDepth 100000

def InsQ (w : World) (base : Nat) (v : Value) (ns : List Ent) (r : Ending) (w' : World) : Prop :=
  ∃ v', r = .returned v' ∧ ApE w' base v' ns ∧ w.grownBy w' (touch v) ∧ (touch v' = touch v ∨ ∀ k, touch v' = some k → w.heap.size ≤ k)
set_option maxHeartbeats 4000000 in
theorem insert_end (v sv : Value) (ms : List Ent) (x : Ent) (w : World) (base : Nat) (h : ApE w base v ms) (hs : Rw 4 Ent.cl w sv [x]) (hl : ms.length ≤ 1048576) (hbase : base ≤ w.heap.size) :
    Calls Tryz.prog 121 #[v, .int .i64 (ms.length : Int), sv] w (InsQ w base v (ms ++ [x])) := by
  have H := dH h
  have HS := dH hs
  obtain ⟨a, c, rfl⟩ := ApR.slice elemE h
  have hnc : ms.length ≤ c ∧ c ≤ 9223372036854775807 := by
    obtain ⟨-, a', c', e, hc, -⟩ := ApR.own elemE h
    cases e
    exact hc
  have ha : ms.length = 0 ∨ ∃ ad, a = some ad := by
    obtain ⟨-, a', c', e, -, hc⟩ := ApR.own elemE h
    cases e
    rcases hc with hc | ⟨b, off, rfl, -⟩
    · exact .inl (by simp [hc])
    · exact .inr ⟨_, rfl⟩
  obtain ⟨-, sa, sc, rfl, hsc, -⟩ := hs
  have FIN : Hid (∀ v' w', ApE w' base v' (ms ++ [x]) → w.grownBy w' (touch (.slice a ms.length c)) → (touch v' = touch (.slice a ms.length c) ∨ ∀ k, touch v' = some k → w.heap.size ≤ k) → InsQ w base (.slice a ms.length c) (ms ++ [x]) (.returned v') w') := fun v' w' h1 h2 h3 => ⟨v', rfl, h1, h2, h3⟩
  generalize InsQ w base (.slice a ms.length c) (ms ++ [x]) = Q at *
  clear h
  simp only [List.length_singleton] at *
  cases a with
  | none =>
    have h0 : ms.length = 0 := by
      rcases ha with h | ⟨ad, h⟩
      · exact h
      · cases h
    go_enter Tryz.func121, Tryz.ntmps121
    go_wp2_with (at_builtin; refine wp_apT elemF Tryz.underlying27 rfl _ _ rfl base _ ms rfl (dU H) _ [x] rfl (dU HS) (by simp; omega) (by simp; omega) hbase ?_; intro v' w' h1 h2 h3; have F := dH (dU FIN _ _ h1 h2 h3); clear h1 h2 h3)
    all_goals exact dU F
  | some ad =>
    go_enter Tryz.func121, Tryz.ntmps121
    go_wp2_with (at_builtin; refine wp_apT elemF Tryz.underlying27 rfl _ _ rfl base _ ms rfl (dU H) _ [x] rfl (dU HS) (by simp; omega) (by simp; omega) hbase ?_; intro v' w' h1 h2 h3; have F := dH (dU FIN _ _ h1 h2 h3); clear h1 h2 h3)
    all_goals exact dU F
theorem grown_trans {w w1 w2 : World} {r : Option Nat} (h1 : w.grownBy w1 r) (h2 : w1.grownBy w2 r) : w.grownBy w2 r :=
  ⟨h2.os.trans h1.os, h2.tape.trans h1.tape, h2.output.trans h1.output, Nat.le_trans h1.size h2.size, fun k hk hn => (h2.block k (Nat.lt_of_lt_of_le hk h1.size) hn).trans (h1.block k hk hn)⟩
theorem grown_new {w w1 w2 : World} {r : Option Nat} {g : Nat} (h1 : w.grownBy w1 r) (h2 : w1.grownBy w2 (some g)) (hg : w.heap.size ≤ g) : w.grownBy w2 r :=
  ⟨h2.os.trans h1.os, h2.tape.trans h1.tape, h2.output.trans h1.output, Nat.le_trans h1.size h2.size, fun k hk hn => (h2.block k (Nat.lt_of_lt_of_le hk h1.size) (by intro e; cases e; omega)).trans (h1.block k hk hn)⟩
theorem grown_of_drew {w w1 : World} {r : Option Nat} (h : w.drew.grownBy w1 r) : w.grownBy w1 r := ⟨h.os, h.tape, h.output, h.size, h.block⟩
theorem fcells_split (ms : List Ent) (i : Nat) : fcells Ent.cl ms = fcells Ent.cl (ms.take i) ++ fcells Ent.cl (ms.drop i) := by rw [← fcells_app, List.take_append_drop]
theorem fcells_mid (ms : List Ent) (x : Ent) (i : Nat) : fcells Ent.cl (ms.take i ++ x :: ms.drop i) = fcells Ent.cl (ms.take i) ++ (x.cl ++ fcells Ent.cl (ms.drop i)) := by rw [fcells_app]; rfl
set_option maxHeartbeats 4000000 in
theorem insert_grow (g vb i c : Nat) (ms : List Ent) (x : Ent) (w : World) (base : Nat) (h : w.ownsRow base 36 4 (.slice (some ⟨g, 0, none⟩) ms.length c) ms.length (fcells Ent.cl ms)) (hvs : ∀ j u, x.cl[j]? = some u → w.cell? ⟨vb, j, none⟩ = some u) (hl : ms.length ≤ 1048576) (hi : i < ms.length) (hroom : c < ms.length + 1) (hbase : base ≤ w.heap.size) :
    Calls Tryz.prog 121 #[.slice (some ⟨g, 0, none⟩) ms.length c, .int .i64 (i : Int), .slice (some ⟨vb, 0, none⟩) 1 1] w (InsQ w base (.slice (some ⟨g, 0, none⟩) ms.length c) (ms.take i ++ x :: ms.drop i)) := by
  have hnc : ms.length ≤ c := by
    rcases h.2 with ⟨e, -⟩ | ⟨g', cap, cur, e, -, -, hnc, -⟩
    · cases e
    · cases e; exact hnc
  have hcell : ∀ j u, (fcells Ent.cl ms)[j]? = some u → w.cell? ⟨g, j, none⟩ = some u := fun j u hu => by
    have := h.cells (g := g) rfl j u hu
    rwa [addr_add, Nat.zero_add] at this
  have hlen : (fcells Ent.cl ms).length = ms.length * 4 := fcells_len elemE.len ms
  have hlt : (fcells Ent.cl (ms.take i)).length = i * 4 := by rw [fcells_len elemE.len, List.length_take]; congr 1; omega
  have hld : (fcells Ent.cl (ms.drop i)).length = (ms.length - i) * 4 := by rw [fcells_len elemE.len, List.length_drop]
  have hsp := fcells_split ms i
  have hOld : Hid (∀ j u, (fcells Ent.cl (ms.take i))[j]? = some u → w.cell? ⟨g, j, none⟩ = some u) := fun j u hu => hcell j u (by
    rw [hsp, List.getElem?_append_left (by rcases Nat.lt_or_ge j (fcells Ent.cl (ms.take i)).length with h | h; exact h; rw [List.getElem?_eq_none h] at hu; cases hu)]
    exact hu)
  have hDrop : Hid (∀ j u, (fcells Ent.cl (ms.drop i))[j]? = some u → w.cell? ⟨g, i * 4 + j, none⟩ = some u) := fun j u hu => hcell (i * 4 + j) u (by
    rw [hsp, List.getElem?_append_right (by omega), hlt, Nat.add_sub_cancel_left]
    exact hu)
  have hgw : g < w.heap.size := dCell_lt (hcell 0 _ (List.getElem?_eq_getElem (by omega)))
  have hvw : vb < w.heap.size := dCell_lt (hvs 0 _ rfl)
  have HVS := dH hvs
  have hmid := dH (fcells_mid ms x i)
  have hnew := dH (show (ms.take i ++ x :: ms.drop i).length = ms.length + 1 by simp; omega)
  have o1 := dH (fcells_one elemE (ms.drop i))
  have o2 : Hid (∀ u ∈ x.cl, u.oneCell' = true) := elemE.one x
  have olen : (ms.take i).length = i := by rw [List.length_take]; omega
  have FIN : Hid (∀ w' G Z, w.grownBy w' none → w'.heap[w.heap.size]? = some (.cells (fcells Ent.cl (ms.take i) ++ (x.cl ++ (fcells Ent.cl (ms.drop i) ++ Z))).toArray 36 (0, 0)) → ms.length + 1 ≤ G → G ≤ 9223372036854775807 → Z.length = (G - (ms.length + 1)) * 4 → InsQ w base (.slice (some ⟨g, 0, none⟩) ms.length c) (ms.take i ++ x :: ms.drop i) (.returned (.slice (some ⟨w.heap.size, 0, none⟩) (ms.length + 1) G)) w') := fun w' G Z hg hrow hG hG2 hZ => by
    refine ⟨_, rfl, .inr ⟨by rw [fcells_len elemE.len], .inr ⟨w.heap.size, G, _, by rw [dU hnew], hbase, hrow, by rw [dU hnew]; exact hG, hG2, ?_, ?_⟩⟩, hg.but _, .inr fun k hk => ?_⟩
    · simp only [List.size_toArray, List.length_append, hlt, hld, hZ, show x.cl.length = 4 from rfl]
      omega
    · rw [dU hmid, dU hnew]
      have e1 : (fcells Ent.cl (ms.take i) ++ (x.cl ++ (fcells Ent.cl (ms.drop i) ++ Z))) = (fcells Ent.cl (ms.take i) ++ (x.cl ++ fcells Ent.cl (ms.drop i))) ++ Z := by simp
      have e2 : (fcells Ent.cl (ms.take i) ++ (x.cl ++ fcells Ent.cl (ms.drop i))).length = (ms.length + 1) * 4 := by
        simp only [List.length_append, hlt, hld, show x.cl.length = 4 from rfl]
        omega
      rw [e1, ← e2]
      exact List.take_left
    · have hG0 : G ≠ 0 := by omega
      simp [touch, hG0] at hk
      omega
  generalize InsQ w base (.slice (some ⟨g, 0, none⟩) ms.length c) (ms.take i ++ x :: ms.drop i) = Q at *
  have xl : x.cl.length = 4 := rfl
  clear h hcell hvs hlen hsp hmid hnew
  generalize x.cl = XC at *
  generalize fcells Ent.cl (ms.drop i) = DC at *
  generalize ms.length = n at *
  have hin : i ≤ n := by omega
  have hz1 : ¬ ((i : Int) = (n : Int)) := by omega
  have hz3 : (c : Int) < (n : Int) + 1 := by omega
  have hci : ¬ (c = i) := by omega
  have hkk : (n : Int) + 1 - (i : Int) = ((n + 1 - i : Nat) : Int) := by omega
  have hik : i + (n + 1 - i) = n + 1 := by omega
  go_enter Tryz.func121, Tryz.ntmps121
  go_wp2_with (first
    | (at_builtin; refine wp_growZ elemF Tryz.underlying3 rfl _ _ rfl g i c (n + 1 - i) (n + 1) hik (ms.take i) rfl rfl olen (dU hOld) (by omega) (by omega) (by omega) (by decide) ?_; intro W1 G Z ROW HR R1 G1 hGn hG63 hZl)
    | (refine wp_copyK rfl _ _ 114 27 rfl 36 4 elemF.under (by kernel_rfl) (by decide) _ _ _ _ _ _ rfl rfl w.heap.size (i * 4) ROW 36 (dU R1) XC (by rw [show Nat.min 1 (n + 1 - i) = 1 from Nat.min_eq_left (by omega), xl]) (fun _ => ⟨rfl, _, rfl, fun j u hu => by rw [addr_add, Nat.zero_add]; exact (dU G1).cell (dU HVS j u hu) (by simp)⟩) (by rw [dU HR, List.length_append, hlt, dU hZl, xl]; omega) (dU o2) ?_; intro W2 R2 G2))
  have hmn : Nat.min (n - i) (n + 1 - (i + 1)) = n - i := by rw [show n + 1 - (i + 1) = n - i by omega]; exact Nat.min_self _
  have HM := dH hmn
  have hGi : ¬ (G = i + 1) := by omega
  have hb3 : (i : Int) ≤ (n : Int) := by omega
  have hw1 : IntKind.i64.wrap ((i : Int) + 1) = (i : Int) + 1 := by rw [IntKind.wrap_i64]; omega
  have hb1 : (0 : Int) ≤ (i : Int) + 1 := by omega
  have htn : ((i : Int) + 1).toNat = i + 1 := by omega
  clear hmn
  go_region_law (refine step_copyK rfl (.tmp 50) (.tmp 53) 114 114 rfl 36 4 elemF.under (by kernel_rfl) (by decide) (some ⟨w.heap.size, (i + 1) * 4, none⟩) (some ⟨g, i * 4, none⟩) (n + 1 - (i + 1)) (G - (i + 1)) (n - i) (c - i) (by simp [Act.eval, Act.put]) (by simp [Act.eval, Act.put]) w.heap.size (i * 4 + 4) (splice ROW (i * 4) XC) 36 (dU R2) DC (by rw [dU HM, hld]) (fun _ => ⟨by rw [Nat.add_mul], _, rfl, fun j u hu => by rw [addr_add]; exact (dU G2).cell ((dU G1).cell (dU hDrop j u hu) (by simp)) (by simp; omega)⟩) (by rw [length_splice _ _ _ (by rw [dU HR, List.length_append, hlt, dU hZl, xl]; omega), dU HR, List.length_append, hlt, dU hZl, hld]; omega) (dU o1) ?_; intro W3 R3 G3)
  have F := dH (dU FIN W3 G ((Z.drop XC.length).drop DC.length) (grown_new (grown_new (dU G1) (dU G2) (Nat.le_refl _)) (grown_of_drew (dU G3)) (Nat.le_refl _)) (by
    have e := dU R3
    have e2 := splice_grow (fcells Ent.cl (ms.take i)) Z XC DC
    rw [hlt, xl, ← dU HR] at e2
    rw [e2, ← xl] at e
    exact e) hGn hG63 (by rw [List.length_drop, List.length_drop, dU hZl, hld, xl]; omega))
  clear HR R1 G1 R2 G2 R3 G3 hZl FIN
  go_wp2
  exact dU F
theorem overlaps_no (w : World) (vb g off lb cb : Nat) (tA tB : TypeId) (xs cur : Array Value) (hx : w.heap[vb]? = some (.cells xs tA (0, 0))) (hc : w.heap[g]? = some (.cells cur tB (0, 0))) (hne : vb ≠ g) (h0 : cur.size ≠ 0) :
    (callFunc 153 #[.slice (some ⟨vb, 0, none⟩) 1 1, .slice (some ⟨g, off, none⟩) lb cb]).run Tryz.prog w = .ok (.value (.bool false)) w := by
  have hs : (Tryz.prog.funcs[153]?).isSome = true := by kernel_rfl
  have hf : Tryz.prog.funcs[153]? = some ((Tryz.prog.funcs[153]?).get hs) := (Option.some_get hs).symm
  rw [run_callFunc_extern hf (by kernel_rfl) (by kernel_rfl) (by kernel_rfl) (e := Extern.SlicesOverlaps.overlaps #[27, 27] #[4]) (by kernel_rfl),
    Lib.run_overlaps_apart w 27 4 36 Tryz.underlying27 4 Tryz.sizeOf36 ⟨vb, 0, none⟩ ⟨g, off, none⟩ 1 1 lb cb hne tA tB xs.size cur.size (by simp [World.shape?, hx]) (by simp [World.shape?, hc]) h0 (by simp [World.frozen?, hx]) (by simp [World.frozen?, hx])]
  rfl
set_option maxHeartbeats 4000000 in
theorem insert_shift (g vb i c : Nat) (tA : TypeId) (ms : List Ent) (x : Ent) (w : World) (base : Nat) (cur : List Value) (hbg : base ≤ g) (hrow : w.heap[g]? = some (.cells cur.toArray 36 (0, 0))) (hcl : cur.length = c * 4) (htk : cur.take (ms.length * 4) = fcells Ent.cl ms) (hcm : c ≤ 9223372036854775807)
    (hvs : w.heap[vb]? = some (.cells x.cl.toArray tA (0, 0))) (hne : vb ≠ g) (hl : ms.length ≤ 1048576) (hi : i < ms.length) (hroom : ms.length + 1 ≤ c) (hbase : base ≤ w.heap.size) :
    Calls Tryz.prog 121 #[.slice (some ⟨g, 0, none⟩) ms.length c, .int .i64 (i : Int), .slice (some ⟨vb, 0, none⟩) 1 1] w (InsQ w base (.slice (some ⟨g, 0, none⟩) ms.length c) (ms.take i ++ x :: ms.drop i)) := by
  have hlen : (fcells Ent.cl ms).length = ms.length * 4 := fcells_len elemE.len ms
  have hlt : (fcells Ent.cl (ms.take i)).length = i * 4 := by rw [fcells_len elemE.len, List.length_take]; congr 1; omega
  have hld : (fcells Ent.cl (ms.drop i)).length = (ms.length - i) * 4 := by rw [fcells_len elemE.len, List.length_drop]
  have hsp := fcells_split ms i
  have hA : cur.take (i * 4) = fcells Ent.cl (ms.take i) := by
    have e : (cur.take (ms.length * 4)).take (i * 4) = (fcells Ent.cl ms).take (i * 4) := by rw [htk]
    rw [List.take_take, show min (i * 4) (ms.length * 4) = i * 4 by omega, hsp, ← hlt, List.take_left] at e
    rw [← hlt]
    exact e
  have HC : Hid (cur = fcells Ent.cl (ms.take i) ++ ((cur.drop (i * 4)).take 4 ++ (cur.drop (i * 4)).drop 4)) := by
    show _ = _
    rw [List.take_append_drop, ← hA, List.take_append_drop]
  have hDrop : Hid (∀ j u, (fcells Ent.cl (ms.drop i))[j]? = some u → w.cell? ⟨g, i * 4 + j, none⟩ = some u) := fun j u hu => by
    have hj : j < (ms.length - i) * 4 := by
      rw [← hld]
      rcases Nat.lt_or_ge j (fcells Ent.cl (ms.drop i)).length with h | h
      · exact h
      · rw [List.getElem?_eq_none h] at hu; cases hu
    have e : (cur.take (ms.length * 4))[i * 4 + j]? = some u := by
      rw [htk, hsp, List.getElem?_append_right (by omega), hlt, Nat.add_sub_cancel_left]
      exact hu
    rw [List.getElem?_take, if_pos (by omega)] at e
    simp only [World.cell?, hrow]
    simpa using e
  have HM4 := dH (show ((cur.drop (i * 4)).take 4).length = 4 by rw [List.length_take, List.length_drop, hcl]; omega)
  have HZ4 := dH (show ((cur.drop (i * 4)).drop 4).length = (c - i - 1) * 4 by rw [List.length_drop, List.length_drop, hcl]; omega)
  generalize (cur.drop (i * 4)).take 4 = M at *
  generalize (cur.drop (i * 4)).drop 4 = Z at *
  have HOV := dH fun off lb cb => overlaps_no w vb g off lb cb tA 36 _ _ hvs hrow hne (by rw [List.size_toArray, hcl]; omega)
  have HV : Hid (∀ j u, x.cl[j]? = some u → w.cell? ⟨vb, j, none⟩ = some u) := fun j u hu => by
    simp only [World.cell?, hvs]
    simpa using hu
  have hmid := dH (fcells_mid ms x i)
  have hnew := dH (show (ms.take i ++ x :: ms.drop i).length = ms.length + 1 by simp; omega)
  have o1 := dH (fcells_one elemE (ms.drop i))
  have o2 : Hid (∀ u ∈ x.cl, u.oneCell' = true) := elemE.one x
  have FIN : Hid (∀ w' Z, w.grownBy w' (some g) → w'.heap[g]? = some (.cells (fcells Ent.cl (ms.take i) ++ (x.cl ++ (fcells Ent.cl (ms.drop i) ++ Z))).toArray 36 (0, 0)) → Z.length = (c - (ms.length + 1)) * 4 → InsQ w base (.slice (some ⟨g, 0, none⟩) ms.length c) (ms.take i ++ x :: ms.drop i) (.returned (.slice (some ⟨g, 0, none⟩) (ms.length + 1) c)) w') := fun w' Z hg hrow hZ => by
    have hc0 : c ≠ 0 := by omega
    refine ⟨_, rfl, .inr ⟨by rw [fcells_len elemE.len], .inr ⟨g, c, _, by rw [dU hnew], hbg, hrow, by rw [dU hnew]; exact hroom, hcm, ?_, ?_⟩⟩, by simpa [touch, hc0] using hg, .inl (by simp [touch, hc0])⟩
    · simp only [List.size_toArray, List.length_append, hlt, hld, hZ, show x.cl.length = 4 from rfl]
      omega
    · rw [dU hmid, dU hnew]
      have e1 : (fcells Ent.cl (ms.take i) ++ (x.cl ++ (fcells Ent.cl (ms.drop i) ++ Z))) = (fcells Ent.cl (ms.take i) ++ (x.cl ++ fcells Ent.cl (ms.drop i))) ++ Z := by simp
      have e2 : (fcells Ent.cl (ms.take i) ++ (x.cl ++ fcells Ent.cl (ms.drop i))).length = (ms.length + 1) * 4 := by
        simp only [List.length_append, hlt, hld, show x.cl.length = 4 from rfl]
        omega
      rw [e1, ← e2]
      exact List.take_left
  generalize InsQ w base (.slice (some ⟨g, 0, none⟩) ms.length c) (ms.take i ++ x :: ms.drop i) = Q at *
  have xl : x.cl.length = 4 := rfl
  have HR := dH hrow
  clear hlen hsp hmid hnew hvs hA htk hrow
  generalize x.cl = XC at *
  generalize fcells Ent.cl (ms.drop i) = DC at *
  generalize ms.length = n at *
  have hin : i ≤ n := by omega
  have hz1 : ¬ ((i : Int) = (n : Int)) := by omega
  have hz3 : ¬ ((c : Int) < (n : Int) + 1) := by omega
  have hci : ¬ (c = i) := by omega
  have hci1 : ¬ (c = i + 1) := by omega
  have hb3 : (i : Int) ≤ (n : Int) := by omega
  have hb4 : (n : Int) + 1 ≤ (c : Int) := by omega
  have hw1 : IntKind.i64.wrap ((i : Int) + 1) = (i : Int) + 1 := by rw [IntKind.wrap_i64]; omega
  have hw2 : IntKind.i64.wrap ((n : Int) + 1) = (n : Int) + 1 := by rw [IntKind.wrap_i64]; omega
  have hb1 : (0 : Int) ≤ (i : Int) + 1 := by omega
  have hb5 : (0 : Int) ≤ (n : Int) + 1 := by omega
  have hb6 : (i : Int) ≤ (n : Int) + 1 := by omega
  have htn : ((i : Int) + 1).toNat = i + 1 := by omega
  have htn2 : ((n : Int) + 1).toNat = n + 1 := by omega
  have hov := dU HOV
  go_enter Tryz.func121, Tryz.ntmps121
  go_wp2_with (simp only [hov])
  have hmn : Nat.min (n + 1 - i) (n + 1 - (i + 1)) = n - i := by rw [show n + 1 - (i + 1) = n - i by omega]; exact Nat.min_eq_right (by omega)
  have HM := dH hmn
  clear hmn hov
  go_region_law (refine step_copyK rfl (.tmp 73) (.tmp 76) 114 114 rfl 36 4 elemF.under (by kernel_rfl) (by decide) (some ⟨g, (i + 1) * 4, none⟩) (some ⟨g, i * 4, none⟩) (n + 1 - (i + 1)) (c - (i + 1)) (n + 1 - i) (c - i) (by simp [Act.eval, Act.put]) (by simp [Act.eval, Act.put]) g (i * 4 + 4) cur 36 (dU HR) DC (by rw [dU HM, hld]) (fun _ => ⟨by rw [Nat.add_mul], _, rfl, fun j u hu => by rw [addr_add]; exact dU hDrop j u hu⟩) (by rw [hcl, hld]; omega) (dU o1) ?_; intro W2 R2 G2)
  go_wp2_with (refine wp_copyK rfl _ _ 114 27 rfl 36 4 elemF.under (by kernel_rfl) (by decide) _ _ _ _ _ _ rfl rfl g (i * 4) (splice cur (i * 4 + 4) DC) 36 (dU R2) XC (by rw [show Nat.min 1 (n + 1 - i) = 1 from Nat.min_eq_left (by omega), xl]) (fun _ => ⟨rfl, _, rfl, fun j u hu => by rw [addr_add, Nat.zero_add]; exact (grown_of_drew (dU G2)).cell (dU HV j u hu) (by simpa using hne)⟩) (by rw [length_splice _ _ _ (by rw [hcl, hld]; omega), hcl, xl]; omega) (dU o2) ?_; intro W3 R3 G3
               have F := dH (dU FIN W3 (Z.drop DC.length) (grown_trans (grown_of_drew (dU G2)) (dU G3)) (by
                 have e := dU R3
                 have e2 := splice_shift (fcells Ent.cl (ms.take i)) M Z XC DC (by rw [xl, dU HM4])
                 rw [← dU HC, hlt, dU HM4] at e2
                 rw [e2] at e
                 exact e) (by rw [List.length_drop, dU HZ4, hld]; omega))
               clear R2 G2 R3 G3)
  exact dU F
theorem insert_any (v : Value) (ms : List Ent) (x : Ent) (w : World) (base i vb : Nat) (tA : TypeId) (h : ApE w base v ms) (hvs : w.heap[vb]? = some (.cells x.cl.toArray tA (0, 0))) (hne : touch v ≠ some vb) (hl : ms.length ≤ 1048576) (hi : i ≤ ms.length) (hbase : base ≤ w.heap.size) :
    Calls Tryz.prog 121 #[v, .int .i64 (i : Int), .slice (some ⟨vb, 0, none⟩) 1 1] w (InsQ w base v (ms.take i ++ x :: ms.drop i)) := by
  have hcell : ∀ j u, x.cl[j]? = some u → w.cell? ⟨vb, j, none⟩ = some u := fun j u hu => by
    simp only [World.cell?, hvs]
    simpa using hu
  rcases Nat.eq_or_lt_of_le hi with rfl | hi
  · have e := insert_end v (.slice (some ⟨vb, 0, none⟩) 1 1) ms x w base h ⟨by simp, _, 1, rfl, by simp, .inr ⟨vb, 0, rfl, fun i hi j u hu => by
      obtain rfl : i = 0 := by simp at hi; omega
      simpa using hcell j u hu⟩⟩ hl hbase
    rw [List.take_length, List.drop_length]
    exact e
  · rcases h with ⟨rfl, a, rfl⟩ | h
    · simp at hi
    · rcases h.2 with ⟨rfl, h0⟩ | ⟨g, c, cur, rfl, hb, hg, hnc, hcm, hcs, htk⟩
      · omega
      · by_cases hroom : ms.length + 1 ≤ c
        · have hc0 : c ≠ 0 := by omega
          refine insert_shift g vb i c tA ms x w base cur.toList hb (by simpa using hg) (by simpa using hcs) htk hcm hvs (fun e => hne (by simp [touch, hc0, e])) hl hi hroom hbase
        · exact insert_grow g vb i c ms x w base h hcell hl hi (by omega) hbase
end Go.Proofs.YtjkjmapibcfcdaaGreat
