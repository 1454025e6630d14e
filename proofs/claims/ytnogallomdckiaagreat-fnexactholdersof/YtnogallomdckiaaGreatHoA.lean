/- HoldersOf, both sides (printed by tools/mkho.py). -/
import Derived.Test.YtnogallomdckiaaGreatWkZ
import Derived.Test.YtnogallomdckiaaGreatGz14
import Derived.Test.YtnogallomdckiaaGreatGaC
import Derived.Test.YtnogallomdckiaaGreatGz16
namespace Go.Proofs.YtnogallomdckiaaGreat
open Go.ChangeShapes Go.WideShapes Go.ChangeAt Go.RowKit
set_option linter.unusedVariables false
set_option linter.unusedSimpArgs false
set_option maxRecDepth 100000

def holdN (x : Int) (ms : List St) : Nat → List Int
 | 0 => []
 | k + 1 => holdN x ms k ++ (if (getL (ms.getD k ⟨[], [], 0⟩).kept x).isSome then [(k : Int)] else [])
theorem holdN_len (x : Int) (ms : List St) : ∀ k, (holdN x ms k).length ≤ k
 | 0 => Nat.le_refl _
 | k + 1 => by
  have := holdN_len x ms k
  unfold holdN
  rw [List.length_append]
  split <;> simp <;> omega
noncomputable def holdW (x : Int) (m : Wo) : List Int := @ite _ (woP m) (Classical.propDecidable _) (holdN x m.stores m.stores.length) []
theorem holdW_yes {x : Int} {m : Wo} (h : woP m) : holdW x m = holdN x m.stores m.stores.length := if_pos h
theorem holdW_no {x : Int} {m : Wo} (h : ¬ woP m) : holdW x m = [] := if_neg h
theorem ownKeep {w w' : World} {B n : Nat} {v : Value} {xs : List Value} (h : w.ownsRow B 3 1 v n xs) (b : Below w.heap.size w w') : w'.ownsRow B 3 1 v n xs := h.kept (row := none) (grownOf b) (Classical.em _)
theorem findT_none : findT none = .tuple #[.agg #[.int .i64 0, .int .i64 0, .bool false, .string ⟨#[]⟩], .bool false] := rfl
theorem findT_some (e : Ent) : findT (some e) = .tuple #[.agg #[.int .i64 e.pl, .int .i64 e.wave, .bool e.hole, .string e.data], .bool true] := rfl
set_option maxHeartbeats 4000000 in
theorem specHolders_any (v : Value) (m : Wo) (x : Int) (w : World) (ok : okWorld m) (hs : sizWorld m ≤ 1048576) (hv : RdWorld v m w) :
  Calls Tryz.prog 36 #[v, .int .i64 x] w fun e w' => (∃ o, e = .returned o ∧ OwnN w' w.heap.size o (holdW x m)) ∧ Below w.heap.size w w' := by
 have CW := dH fun W (hb : Below w.heap.size w W) => specWorldOk_any v m W ok hs (hv.below hb)
 obtain ⟨da, dc, sa, sc, la, lc, ea, ec, wa, wc, na, nc, ra, rc', ta, tc, rfl, -, hst, -, -, -, -, -, -⟩ := partsWorld hv
 obtain ⟨⟨ds, cop⟩, stores, lost, ⟨eras, trim⟩, writers, mends, readers, sent, torn⟩ := m
 have hsl : stores.length ≤ 1048576 := by unfold sizWorld sizStoreS at hs; simp only at hs; omega
 simp only at *
 clear hv hs ok
 obtain ⟨rs, rfl, hr, hn⟩ := hst
 rw [List.length_map] at *
 have HW : Hid (∀ R, (woP ⟨(ds, cop), rs.map Ps.m, lost, ⟨eras, trim⟩, writers, mends, readers, sent, torn⟩ → R = holdN x (rs.map Ps.m) rs.length) → (¬ woP ⟨(ds, cop), rs.map Ps.m, lost, ⟨eras, trim⟩, writers, mends, readers, sent, torn⟩ → R = []) → holdW x ⟨(ds, cop), rs.map Ps.m, lost, ⟨eras, trim⟩, writers, mends, readers, sent, torn⟩ = R) := fun R h1 h2 => by
  by_cases h : woP ⟨(ds, cop), rs.map Ps.m, lost, ⟨eras, trim⟩, writers, mends, readers, sent, torn⟩
  ·rw [holdW_yes h, h1 h, List.length_map]
  ·rw [holdW_no h, h2 h]
 generalize holdW x ⟨(ds, cop), rs.map Ps.m, lost, ⟨eras, trim⟩, writers, mends, readers, sent, torn⟩ = R at *
 have HV := dH fun W (hb : Below w.heap.size w W) => hr.below hb
 have HN := dH fun W (hb : Below w.heap.size w W) k (hk : k < rs.length) => (hn _ (List.getElem_mem hk)).below hb
 have B0 : Below w.heap.size w (w.alloc (.cells #[.slice da ds.length dc, .int .i64 cop, .slice sa rs.length sc, .slice la lost.length lc, .slice ea eras.length ec, .int .i64 trim, .slice wa writers.length wc, .slice na mends.length nc, .slice ra readers.length rc', .slice ta sent.length tc, .bool torn] 71)) := (Below.refl _ _).alloc (Nat.le_refl _) _
 have X0 := Bx.new w [.slice da ds.length dc, .int .i64 cop, .slice sa rs.length sc, .slice la lost.length lc, .slice ea eras.length ec, .int .i64 trim, .slice wa writers.length wc, .slice na mends.length nc, .slice ra readers.length rc', .slice ta sent.length tc, .bool torn] 71
 have z0 : w.heap.size ≤ (w.alloc (.cells #[.slice da ds.length dc, .int .i64 cop, .slice sa rs.length sc, .slice la lost.length lc, .slice ea eras.length ec, .int .i64 trim, .slice wa writers.length wc, .slice na mends.length nc, .slice ra readers.length rc', .slice ta sent.length tc, .bool torn] 71)).heap.size := by simp
 have HZ : Hid ((w.alloc (.cells #[.slice da ds.length dc, .int .i64 cop, .slice sa rs.length sc, .slice la lost.length lc, .slice ea eras.length ec, .int .i64 trim, .slice wa writers.length wc, .slice na mends.length nc, .slice ra readers.length rc', .slice ta sent.length tc, .bool torn] 71)).heap.size = w.heap.size + 1) := by simp [Hid]
 clear hn hr
 by_cases hW : woP ⟨(ds, cop), rs.map Ps.m, lost, ⟨eras, trim⟩, writers, mends, readers, sent, torn⟩
 case neg =>
  have CN := dH fun W hB => retB_no (dU CW W hB) hW
  have e1 := dU HW [] (fun h => absurd h hW) (fun _ => rfl)
  subst e1
  clear HW CW hW HV HN
  go_enter Tryz.func36, Tryz.ntmps36
  go_wp2
  generalize w.alloc (.cells #[.slice da ds.length dc, .int .i64 cop, .slice sa rs.length sc, .slice la lost.length lc, .slice ea eras.length ec, .int .i64 trim, .slice wa writers.length wc, .slice na mends.length nc, .slice ra readers.length rc', .slice ta sent.length tc, .bool torn] 71) = w0 at *
  have HX := dH X0
  clear X0
  go_loopw [5, 6] (fun o y wr => y = .int .i64 0 ∧ wr.ownsRow w0.heap.size 3 1 o ([] : List Int).length (ncells []) ∧ Below w0.heap.size w0 wr) (fun _ _ _ => 0)
  case atStart => exact ⟨rfl, by rw [← dU HZ]; exact World.ownsRow_made w0 #[] 0 (Nat.le_refl _) (by decide) (by simp), (Below.refl _ _).alloc (Nat.le_refl _) _⟩
  case round =>
   obtain ⟨rfl, hown, hb⟩ := hrel
   have hB := bT B0 hb
   have X1 := (dU HX).below hb
   have q0 := X1 0 _ rfl
   have q1 := X1 1 _ rfl
   have q2 := X1 2 _ rfl
   have q3 := X1 3 _ rfl
   have q4 := X1 4 _ rfl
   have q5 := X1 5 _ rfl
   have q6 := X1 6 _ rfl
   have q7 := X1 7 _ rfl
   have q8 := X1 8 _ rfl
   have q9 := X1 9 _ rfl
   have q10 := X1 10 _ rfl
   clear X1
   by_cases hlt : (0 : Int) < (rs.length : Int)
   ·go_wp2_with fail
    refine (dU CN _ hB).mono ?_
    rintro e w2 ⟨rfl, bl2⟩
    have O := dH ((ownN_of_row (ownKeep hown bl2)).mono z0)
    have hB2 := bT hB bl2
    clear hown bl2 CN
    go_wp2
    go_ret
    exact ⟨⟨_, rfl, dU O⟩, hB2⟩
   ·have O := dH ((ownN_of_row hown).mono z0)
    clear hown CN
    go_wp2
    go_ret
    exact ⟨⟨_, rfl, dU O⟩, hB⟩
 have CN := dH fun W hB => retB_yes (dU CW W hB) hW
 have e1 := dU HW _ (fun _ => rfl) (fun h => absurd hW h)
 subst e1
 clear HW CW hW
 go_enter Tryz.func36, Tryz.ntmps36
 go_wp2
 generalize w.alloc (.cells #[.slice da ds.length dc, .int .i64 cop, .slice sa rs.length sc, .slice la lost.length lc, .slice ea eras.length ec, .int .i64 trim, .slice wa writers.length wc, .slice na mends.length nc, .slice ra readers.length rc', .slice ta sent.length tc, .bool torn] 71) = w0 at *
 have HX := dH X0
 clear X0
 go_loopw [5, 6] (fun o y wr => ∃ k : Nat, y = .int .i64 (k : Int) ∧ k ≤ rs.length ∧ wr.ownsRow w0.heap.size 3 1 o (holdN x (rs.map Ps.m) k).length (ncells (holdN x (rs.map Ps.m) k)) ∧ Below w0.heap.size w0 wr) (fun _ y _ => rs.length - (intOf y).toNat)
 case atStart => exact ⟨0, rfl, Nat.zero_le _, by rw [← dU HZ]; exact World.ownsRow_made w0 #[] 0 (Nat.le_refl _) (by decide) (by simp), (Below.refl _ _).alloc (Nat.le_refl _) _⟩
 case round =>
  obtain ⟨k, rfl, hk, hown, hb⟩ := hrel
  have hB := bT B0 hb
  have X1 := (dU HX).below hb
  have k2 := X1 2 _ rfl
  by_cases hlt : (k : Int) < (rs.length : Int)
  ·have hkl : k < rs.length := by omega
   have q0 := X1 0 _ rfl
   have q1 := X1 1 _ rfl
   have q2 := X1 2 _ rfl
   have q3 := X1 3 _ rfl
   have q4 := X1 4 _ rfl
   have q5 := X1 5 _ rfl
   have q6 := X1 6 _ rfl
   have q7 := X1 7 _ rfl
   have q8 := X1 8 _ rfl
   have q9 := X1 9 _ rfl
   have q10 := X1 10 _ rfl
   have hlen := holdN_len x (rs.map Ps.m) k
   have NX : Hid (holdN x (rs.map Ps.m) (k + 1) = holdN x (rs.map Ps.m) k ++ (if (getL rs[k].m.kept x).isSome then [(k : Int)] else [])) := by
    rw [Hid, holdN, List.getD_eq_getElem?_getD, List.getElem?_map, List.getElem?_eq_getElem hkl]
    rfl
   generalize hLL : holdN x (rs.map Ps.m) k = LL at *
   clear hLL
   go_wp2_with fail
   refine (dU CN _ hB).mono ?_
   rintro e w2 ⟨rfl, bl2⟩
   have hb2 := bT hb bl2
   have hB2 := bT B0 hb2
   have own2 := ownKeep hown bl2
   have X2 := (dU HX).below hb2
   have j2 := X2 2 _ rfl
   obtain ⟨b, off, rfl, he⟩ := (dU HV _ hB2).ps hkl
   obtain ⟨c0, -, -⟩ := he k hkl
   have CG := dH fun W (hb : Below w.heap.size w W) => l6Get_any (.slice rs[k].ka rs[k].m.kept.length rs[k].kc) rs[k].m.kept x W (by
    obtain ⟨kv, lv, e, h1, h2⟩ := dU HN W hb k hkl
    simp [psVal] at e
    obtain ⟨rfl, rfl⟩ := e
    exact h1)
   clear he hown k2 q0 q1 q2 q3 q4 q5 q6 q7 q8 q9 q10 X1 X2 bl2
   generalize rs[k] = y at *
   obtain ⟨ya, yc, za, zc, m⟩ := y
   simp only at *
   go_wp2_with fail
   refine (dU CG _ hB2).mono ?_
   rintro e w3 ⟨rfl, bl3⟩
   have hb3 := bT hb2 bl3
   have own3 := ownKeep own2 bl3
   clear CG c0 own2 bl3
   cases hg : getL m.kept x with
   | none =>
    rw [findT_none]
    have e1 : Hid (holdN x (rs.map Ps.m) (k + 1) = LL) := by rw [Hid, dU NX, hg]; simp
    clear NX hg
    have own4 := own3.alloc (.cells #[.int .i64 0, .int .i64 0, .bool false, .string ⟨#[]⟩] 36)
    have hb4 := hb3.alloc hb3.size (.cells #[.int .i64 0, .int .i64 0, .bool false, .string ⟨#[]⟩] 36)
    clear own3
    go_wp2
    go_roundw
    case rel => exact ⟨k + 1, by go_num, by omega, by rw [dU e1]; exact own4, hb4⟩
    case measure => simp [intOf]; omega
   | some y =>
    rw [findT_some]
    have e1 : Hid (holdN x (rs.map Ps.m) (k + 1) = LL ++ [(k : Int)]) := by rw [Hid, dU NX, hg]; simp
    clear NX hg
    have own4 := own3.alloc (.cells #[.int .i64 y.pl, .int .i64 y.wave, .bool y.hole, .string y.data] 36)
    have hb4 := hb3.alloc hb3.size (.cells #[.int .i64 y.pl, .int .i64 y.wave, .bool y.hole, .string y.data] 36)
    have hlt' := own4.lt
    clear own3
    go_wp2_with (at_builtin; refine appN _ rfl _ _ rfl w0.heap.size _ LL rfl (own4.alloc _) ⟨w3.heap.size + 1, 0, none⟩ 1 1 [(k : Int)] rfl rfl ?c2 ?c3 ?c4 ?_)
    case c2 => have := one_int (w3.alloc (.cells #[.int .i64 y.pl, .int .i64 y.wave, .bool y.hole, .string y.data] 36)) (k : Int) 3; simpa using this
    case c3 => simp; omega
    case c4 => have := hb3.size; simp; omega
    intro v' w5 hown' hgrow
    have hb5 : Below w0.heap.size w0 w5 := (hb4.alloc hb4.size _).grown hgrow (by have := hb3.size; simp; omega) (fun k hk => (hlt' k hk).1)
    have own5 := own_lenN hown'
    clear hown' hgrow hb4 hlt' own4 hb3
    go_wp2
    go_roundw
    case rel => exact ⟨k + 1, by go_num, by omega, by rw [dU e1]; exact own5, hb5⟩
    case measure => simp [intOf]; omega
  ·have e1 : k = rs.length := by omega
   subst e1
   have O := dH ((ownN_of_row hown).mono z0)
   clear hown HV HN CN X1
   go_wp2
   go_ret
   exact ⟨⟨_, rfl, dU O⟩, hB⟩
def Room (w : World) (B b : Nat) (cs L : List Int) : Prop := BxZ w B b (cs.map (.int .i64)) ∧ cs.length = 8 ∧ cs.take L.length = L
theorem Room.own {w : World} {B b : Nat} {cs L : List Int} (h : Room w B b cs L) (hl : L.length ≤ 8) : OwnN w B (.slice (some ⟨b, 0, none⟩) L.length L.length) L := by
 obtain ⟨h1, h2, h3⟩ := h
 refine ⟨by omega, _, _, rfl, by omega, .inr ⟨b, 0, rfl, h1.1, fun i hi => ?_⟩⟩
 have hi' : i < cs.length := by omega
 have e : L[i] = cs[i] := by
  have : (cs.take L.length)[i]'(by rw [List.length_take]; omega) = L[i] := by simp only [h3]
  rw [← this, List.getElem_take]
 have := h1.2 i (.int .i64 cs[i]) (by rw [List.getElem?_map, List.getElem?_eq_getElem hi']; rfl)
 rw [e, Nat.zero_add]
 exact this
theorem Room.put {w : World} {B b : Nat} {cs L : List Int} (h : Room w B b cs L) (hl : L.length < 8) (x : Int) : Room (w.setCell ⟨b, L.length, none⟩ (.int .i64 x)) B b (cs.set L.length x) (L ++ [x]) := by
 obtain ⟨h1, h2, h3⟩ := h
 refine ⟨?_, by rw [List.length_set]; exact h2, ?_⟩
 ·have := h1.put L.length (.int .i64 x)
  rwa [← List.map_set] at this
 ·rw [List.length_append, List.length_singleton, set_take _ _ _ (by omega), h3]
theorem Room.below {w w' : World} {B b : Nat} {cs L : List Int} (h : Room w B b cs L) (hb : Below w.heap.size w w') : Room w' B b cs L := ⟨h.1.below hb, h.2⟩
theorem Room.at {w : World} {B b : Nat} {cs L : List Int} (h : Room w B b cs L) (hl : L.length < 8) : ∃ u, w.cell? ⟨b, L.length, none⟩ = some u ∧ w.frozen? ⟨b, L.length, none⟩ = false :=
 ⟨_, h.1.2 L.length (.int .i64 (cs[L.length]'(by have := h.2.1; omega))) (by rw [List.getElem?_map, List.getElem?_eq_getElem (by have := h.2.1; omega)]; rfl)⟩
set_option maxHeartbeats 4000000 in
theorem implHolders_any (v : Value) (m : Wo) (x : Int) (w : World) (ok : okWorld m) (hs : sizWorld m ≤ 1048576) (hv : RdWorld v m w) :
  Calls Tryz.prog 33 #[v, .int .i64 x] w fun e w' => (∃ o, e = .returned o ∧ OwnN w' w.heap.size o (holdW x m)) ∧ Below w.heap.size w w' := by
 have CW := dH fun W (hb : Below w.heap.size w W) => implWorldOk_any v m W ok hs (hv.below hb)
 obtain ⟨da, dc, sa, sc, la, lc, ea, ec, wa, wc, na, nc, ra, rc', ta, tc, rfl, -, hst, -, -, -, -, -, -⟩ := partsWorld hv
 obtain ⟨⟨ds, cop⟩, stores, lost, ⟨eras, trim⟩, writers, mends, readers, sent, torn⟩ := m
 have hfs := ok.2.1
 simp only at *
 clear hv hs ok
 obtain ⟨rs, rfl, hr, hn⟩ := hst
 rw [List.length_map] at *
 have HT : Hid (∀ k (hk : k < rs.length), fitS rs[k].m) := fun k hk => hfs _ (List.mem_map.2 ⟨_, List.getElem_mem hk, rfl⟩)
 have HW : Hid (∀ R, (woP ⟨(ds, cop), rs.map Ps.m, lost, ⟨eras, trim⟩, writers, mends, readers, sent, torn⟩ → R = holdN x (rs.map Ps.m) rs.length) → (¬ woP ⟨(ds, cop), rs.map Ps.m, lost, ⟨eras, trim⟩, writers, mends, readers, sent, torn⟩ → R = []) → holdW x ⟨(ds, cop), rs.map Ps.m, lost, ⟨eras, trim⟩, writers, mends, readers, sent, torn⟩ = R) := fun R h1 h2 => by
  by_cases h : woP ⟨(ds, cop), rs.map Ps.m, lost, ⟨eras, trim⟩, writers, mends, readers, sent, torn⟩
  ·rw [holdW_yes h, h1 h, List.length_map]
  ·rw [holdW_no h, h2 h]
 generalize holdW x ⟨(ds, cop), rs.map Ps.m, lost, ⟨eras, trim⟩, writers, mends, readers, sent, torn⟩ = R at *
 have HV := dH fun W (hb : Below w.heap.size w W) => hr.below hb
 have HN := dH fun W (hb : Below w.heap.size w W) k (hk : k < rs.length) => (hn _ (List.getElem_mem hk)).below hb
 have B0 : Below w.heap.size w (w.alloc (.cells #[.slice da ds.length dc, .int .i64 cop, .slice sa rs.length sc, .slice la lost.length lc, .slice ea eras.length ec, .int .i64 trim, .slice wa writers.length wc, .slice na mends.length nc, .slice ra readers.length rc', .slice ta sent.length tc, .bool torn] 71)) := (Below.refl _ _).alloc (Nat.le_refl _) _
 have X0 := Bx.new w [.slice da ds.length dc, .int .i64 cop, .slice sa rs.length sc, .slice la lost.length lc, .slice ea eras.length ec, .int .i64 trim, .slice wa writers.length wc, .slice na mends.length nc, .slice ra readers.length rc', .slice ta sent.length tc, .bool torn] 71
 clear hn hr hfs
 by_cases hW : woP ⟨(ds, cop), rs.map Ps.m, lost, ⟨eras, trim⟩, writers, mends, readers, sent, torn⟩
 case neg =>
  have CN := dH fun W hB => retB_no (dU CW W hB) hW
  have e1 := dU HW [] (fun h => absurd h hW) (fun _ => rfl)
  subst e1
  clear HW CW hW HV HN X0 HT
  go_enter Tryz.func33, Tryz.ntmps33
  go_wp2_with fail
  refine (dU CN _ B0).mono ?_
  rintro e w2 ⟨rfl, bl2⟩
  have hB2 := bT B0 bl2
  clear CN bl2
  go_wp2
  go_ret
  exact ⟨⟨_, rfl, ⟨by simp, none, 0, rfl, by simp, .inl rfl⟩⟩, hB2⟩
 have CN := dH fun W hB => retB_yes (dU CW W hB) hW
 have e1 := dU HW _ (fun _ => rfl) (fun h => absurd hW h)
 have hn8 : rs.length ≤ 8 := by
  have q := hW.1.1.1.2
  have q2 := hW.1.2.1
  simp only [List.length_map] at q q2
  omega
 have HG : Hid (∀ k (hk : k < rs.length), getM rs[k].m x = getL rs[k].m.kept x) := fun k hk => by
  have q := (hW.1.2.2.2.2 k (by simpa using hk)).1
  simp only [List.getElem_map] at q
  exact if_pos q
 subst e1
 clear HW CW hW
 go_enter Tryz.func33, Tryz.ntmps33
 go_wp2_with fail
 generalize w.alloc (.cells #[.slice da ds.length dc, .int .i64 cop, .slice sa rs.length sc, .slice la lost.length lc, .slice ea eras.length ec, .int .i64 trim, .slice wa writers.length wc, .slice na mends.length nc, .slice ra readers.length rc', .slice ta sent.length tc, .bool torn] 71) = w0 at *
 refine (dU CN _ B0).mono ?_
 rintro e w1 ⟨rfl, bl1⟩
 have B1 := bT B0 bl1
 have X1 := X0.below bl1
 have b2 : Below w1.heap.size w1 (w1.alloc (.cells #[.int .i64 0, .int .i64 0, .int .i64 0, .int .i64 0, .int .i64 0, .int .i64 0, .int .i64 0, .int .i64 0] 156)) := (Below.refl _ _).alloc (Nat.le_refl _) _
 have R0 : Room (w1.alloc (.cells #[.int .i64 0, .int .i64 0, .int .i64 0, .int .i64 0, .int .i64 0, .int .i64 0, .int .i64 0, .int .i64 0] 156)) w.heap.size w1.heap.size [0, 0, 0, 0, 0, 0, 0, 0] [] := ⟨BxZ.new w1 [.int .i64 0, .int .i64 0, .int .i64 0, .int .i64 0, .int .i64 0, .int .i64 0, .int .i64 0, .int .i64 0] 156 B1.size, rfl, rfl⟩
 have k2 := X1.below b2 2 _ rfl
 have HX := dH X1
 have HR := dH R0
 clear X0 bl1 B0 CN X1 R0
 go_wp2
 generalize hrb : w1.heap.size = rb at *
 generalize w1.alloc (.cells #[.int .i64 0, .int .i64 0, .int .i64 0, .int .i64 0, .int .i64 0, .int .i64 0, .int .i64 0, .int .i64 0] 156) = w2 at *
 have HRB := dH hrb
 have hb0 := dH b2
 clear k2 b2 hrb
 go_loopw [6, 17] (fun c y wr => ∃ k : Nat, ∃ cs : List Int, y = .int .i64 (k : Int) ∧ c = .int .i64 ((holdN x (rs.map Ps.m) k).length : Int) ∧ k ≤ rs.length ∧ Hid (Room wr w.heap.size rb cs (holdN x (rs.map Ps.m) k)) ∧ Hid (Below rb w1 wr)) (fun _ y _ => rs.length - (intOf y).toNat)
 case atStart => exact ⟨0, _, rfl, rfl, Nat.zero_le _, dU HR, dU hb0⟩
 case round =>
  obtain ⟨k, cs, rfl, rfl, hk, hroom, hb⟩ := hrel
  have hB : Below w.heap.size w wr := bT B1 ((dU HRB) ▸ dU hb)
  by_cases hlt : (k : Int) < (rs.length : Int)
  ·have hkl : k < rs.length := by omega
   have hlen := holdN_len x (rs.map Ps.m) k
   have NX : Hid (holdN x (rs.map Ps.m) (k + 1) = holdN x (rs.map Ps.m) k ++ (if (getL rs[k].m.kept x).isSome then [(k : Int)] else [])) := by
    rw [Hid, holdN, List.getD_eq_getElem?_getD, List.getElem?_map, List.getElem?_eq_getElem hkl]
    rfl
   generalize holdN x (rs.map Ps.m) k = LL at *
   obtain ⟨b, off, rfl, he⟩ := (dU HV _ hB).ps hkl
   have hck := he k hkl
   have CG := dH fun W (hb : Below w.heap.size w W) => implGet_any (psVal rs[k]) rs[k].m x W (dU HN W hb k hkl) (dU HT k hkl)
   rw [dU HG k hkl] at CG
   clear he
   generalize rs[k] = y at *
   obtain ⟨ya, yc, za, zc, m⟩ := y
   unfold psVal at CG
   unfold PsAt at hck
   simp only at *
   generalize m.kept.length = n1 at *
   generalize m.late.length = n2 at *
   generalize m.lock = n3 at *
   obtain ⟨c0, c1, c2⟩ := hck
   go_wp2_with fail
   have ba : Below wr.heap.size wr (wr.alloc (.cells #[.slice ya n1 yc, .slice za n2 zc, .int .i64 n3] 79)) := (Below.refl _ _).alloc (Nat.le_refl _) _
   refine (dU CG _ (bT hB ba)).mono ?_
   rintro e w3 ⟨rfl, bl3⟩
   have bl3' := bT ba bl3
   have room3 := (dU hroom).below bl3'
   have hb3 : Hid (Below rb w1 w3) := by
    have := dU HRB
    subst this
    exact bT (dU hb) bl3'
   have hB3 := bT hB bl3'
   clear CG c0 c1 c2 ba bl3 bl3' hroom hb
   have be : ∀ o, Below w3.heap.size w3 (w3.alloc o) := fun o => (Below.refl _ _).alloc (Nat.le_refl _) o
   cases hg : getL m.kept x with
   | none =>
    rw [findT_none]
    have e1 : Hid (holdN x (rs.map Ps.m) (k + 1) = LL) := by rw [Hid, dU NX, hg]; simp
    have room4 := dH (room3.below (be (.cells #[.int .i64 0, .int .i64 0, .bool false, .string ⟨#[]⟩] 36)))
    have hb4 : Hid (Below rb w1 (w3.alloc (.cells #[.int .i64 0, .int .i64 0, .bool false, .string ⟨#[]⟩] 36))) := by
     have := dU HRB
     subst this
     exact bT (dU hb3) (be _)
    clear NX hg room3 hb3 hB3 be
    go_wp2
    go_roundw
    case rel => exact ⟨k + 1, cs, by go_num, by rw [dU e1], by omega, by rw [dU e1]; exact room4, hb4⟩
    case measure => simp [intOf]; omega
   | some y =>
    rw [findT_some]
    have e1 : Hid (holdN x (rs.map Ps.m) (k + 1) = LL ++ [(k : Int)]) := by rw [Hid, dU NX, hg]; simp
    have l8 : LL.length < 8 := by omega
    have room4 := room3.below (be (.cells #[.int .i64 y.pl, .int .i64 y.wave, .bool y.hole, .string y.data] 36))
    obtain ⟨uu, z1, z2⟩ := room4.at l8
    have room5 := dH (room4.put l8 (k : Int))
    have hb5 : Hid (Below rb w1 ((w3.alloc (.cells #[.int .i64 y.pl, .int .i64 y.wave, .bool y.hole, .string y.data] 36)).setCell ⟨rb, LL.length, none⟩ (.int .i64 (k : Int)))) := by
     have := dU HRB
     subst this
     exact (bT (dU hb3) (be _)).setCell (p := ⟨w1.heap.size, LL.length, none⟩) (Nat.le_refl _) _
    have l8' : (LL.length : Int) < 8 := by omega
    clear NX hg room3 hb3 hB3 be room4
    go_wp2
    go_roundw
    case rel => exact ⟨k + 1, _, by go_num, by rw [dU e1, List.length_append]; go_num, by omega, by rw [dU e1]; exact room5, hb5⟩
    case measure => simp [intOf]; omega
  ·have e1 : k = rs.length := by omega
   subst e1
   have hlen := holdN_len x (rs.map Ps.m) rs.length
   have O := dH ((dU hroom).own (by omega))
   have l8 : ((holdN x (rs.map Ps.m) rs.length).length : Int) ≤ 8 := by omega
   have l0 : (0 : Int) ≤ ((holdN x (rs.map Ps.m) rs.length).length : Int) := by omega
   clear HV HN hroom HR hb HT HG
   go_wp2
   go_ret
   exact ⟨⟨_, rfl, dU O⟩, hB⟩
theorem bothHoldersOf_ (m0 : Wo) (m1 : Int) (ok0 : okWorld m0) (ok1 : okInt m1) (hs0 : sizWorld m0 ≤ 1048576) : ∃ (R : List Int), cntIntS R ≤ 8388608 ∧ (∀ W v0, RdWorld v0 m0 W → Calls Tryz.prog 36 #[v0, .int .i64 m1] W fun e w' => ∃ u, e = .returned u ∧ Sits (OwIntS W.heap.size w'.heap.size u R) W.heap.size w'.heap.size w' ∧ Below W.heap.size W w') ∧ (∀ W v0, RdWorld v0 m0 W → Calls Tryz.prog 33 #[v0, .int .i64 m1] W fun e w' => ∃ u, e = .returned u ∧ Sits (OwIntS W.heap.size w'.heap.size u R) W.heap.size w'.heap.size w' ∧ Below W.heap.size W w') := by
 refine ⟨holdW m1 m0, ?_, fun W v0 h => (specHolders_any v0 m0 m1 W ok0 hs0 h).mono fun e w' ⟨⟨o, k1, k2⟩, k3⟩ => ⟨o, k1, k2.sits, k3⟩, fun W v0 h => (implHolders_any v0 m0 m1 W ok0 hs0 h).mono fun e w' ⟨⟨o, k1, k2⟩, k3⟩ => ⟨o, k1, k2.sits, k3⟩⟩
 unfold cntIntS
 by_cases h : woP m0
 ·rw [holdW_yes h]
  have := holdN_len m1 m0.stores m0.stores.length
  unfold sizWorld sizStoreS at hs0
  omega
 ·rw [holdW_no h]
  simp
end Go.Proofs.YtnogallomdckiaaGreat
