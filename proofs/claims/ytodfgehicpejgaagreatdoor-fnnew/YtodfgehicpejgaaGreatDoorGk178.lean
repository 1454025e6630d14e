/- Several texts in one: UsB, ImpDe, ImpDh, UnA, StF, UnS, LoA, FiA. -/
import Derived.Test.YtodfgehicpejgaaGreatDoorGk151
import Derived.Test.YtodfgehicpejgaaGreatDoorGk162
import Derived.Laws.MakeOwn
import Derived.Test.YtodfgehicpejgaaGreatDoorGk156
import Derived.Deep.RegionHeld3
import Derived.Test.YtodfgehicpejgaaGreatDoorGk171
import Derived.Test.YtodfgehicpejgaaGreatDoorGk181
import Derived.Test.YtodfgehicpejgaaGreatDoorGk136
namespace Go.Proofs.YtodfgehicpejgaaGreatDoor
open Go.ChangeShapes Go.WideShapes Go.ChangeAt Go.RowKit
set_option linter.unusedSimpArgs false
set_option linter.unusedVariables false
set_option maxRecDepth 100000
theorem OwStore.wide {lo hi lo' hi' : Nat} {v : Value} {m : St} {w : World} (h : OwStore lo hi v m w) (h1 : lo' ≤ lo) (h2 : hi ≤ hi') : OwStore lo' hi' v m w := by
 obtain ⟨kv, lv, e, a, b, c⟩ := h
 exact ⟨kv, lv, e, a.wide h1 h2, b.wide h1 h2, c⟩
theorem OwStore.farS {lo hi b o : Nat} {v : Value} {m : St} {w : World} (h : OwStore lo hi v m w) (hf : hi ≤ w.heap.size) (hb : b < lo) (u : Value) : OwStore lo hi v m (w.setCell ⟨b, o, none⟩ u) :=
 (h.sits hf).all _ fun k h1 h2 => Below.heap_setCell _ _ _ k (fun e => by simp at e; omega)
theorem OwStore.belowS {lo hi : Nat} {v : Value} {m : St} {w w' : World} (h : OwStore lo hi v m w) (hf : hi ≤ w.heap.size) (hb : Below w.heap.size w w') : OwStore lo hi v m w' := ((h.sits hf).below hb).now
theorem OwStore.wrS {lo hi lo' hi' : Nat} {v : Value} {m : St} {w w' : World} (h : OwStore lo hi v m w) (hf : hi ≤ w.heap.size) (hw : Wr lo' hi' w w') (hd : hi ≤ lo' ∨ hi' ≤ lo) : OwStore lo hi v m w' := ((h.sits hf).wr hw hd).now
theorem OwStore.ps {lo hi : Nat} {p : Ps} {W : World} (h : OwStore lo hi (psVal p) p.m W) : OwEntryS lo hi (.slice p.ka p.m.kept.length p.kc) p.m.kept W ∧ OwEntryS lo hi (.slice p.la p.m.late.length p.lc) p.m.late W ∧ (p.m.kept = [] ∨ p.m.late = [] ∨ bO (.slice p.ka p.m.kept.length p.kc) ≠ bO (.slice p.la p.m.late.length p.lc)) := by
 obtain ⟨kv, lv, e, h1, h2, h3⟩ := h
 simp [psVal] at e
 obtain ⟨rfl, rfl⟩ := e
 exact ⟨h1, h2, h3⟩
theorem makeS (n : Nat) (h : n ≤ 1073741824) (w : World) : (Instr.makeSlice 28 (.int .i64 (n : Int)) (.int .i64 (n : Int))).run Tryz.prog w = .ok (.slice (some ⟨w.heap.size, 0, none⟩) n n) (w.alloc (.cells (madeCells (Value.agg #[.slice none 0 0, .slice none 0 0, .int .i64 0]).cells (n * 3)) 80)) := by
 obtain ⟨i0, hi, hz0, hz1, hz2⟩ := info_parts (elemS).info
 have := run_make (P := Tryz.prog) w 28 80 i0 _ Tryz.underlying28 hi hz0 .i64 .i64 (n : Int) (n : Int) (by omega) (by omega) (by rw [hz2]; omega) (by omega)
 rw [hz1] at this
 simpa using this
def zeroPs : Ps := ⟨none, 0, none, 0, ⟨[], [], 0⟩⟩
theorem zeroPs_cells : ∀ (j : Nat) (u : Value), (psCl zeroPs)[j]? = some u → (Value.agg #[.slice none 0 0, .slice none 0 0, .int .i64 0]).cells[j]? = some u := by
 have e : (Value.agg #[.slice none 0 0, .slice none 0 0, .int .i64 0]).cells = #[.slice none 0 0, .slice none 0 0, .int .i64 0] := by kernel_rfl
 intro j u hu
 rw [e]
 have : (psCl zeroPs) = [.slice none 0 0, .slice none 0 0, .int .i64 0] := rfl
 rw [this] at hu
 simpa using hu
def CopS (wr : World) (b : Nat) (rs : List Ps) (k : Nat) (f : Nat → Ps) (s : Nat → Nat) : Prop :=
 RowG 3 psCl wr b 0 rs.length f ∧ Spn s k (b + 1) wr.heap.size ∧ ∀ i (h : i < rs.length), i < k → (f i).m = rs[i].m ∧ OwStore (s i) (s (i + 1)) (psVal (f i)) (f i).m wr
theorem CopS.step {wr w2 : World} {b k : Nat} {rs : List Ps} {f : Nat → Ps} {s : Nat → Nat} (h : CopS wr b rs k f s) (hk : k < rs.length) (hb2 : Below wr.heap.size wr w2) (hbw : b < wr.heap.size) {ka la : Option Addr} {kc lc : Nat} (ho : OwStore wr.heap.size w2.heap.size (psVal ⟨ka, kc, la, lc, rs[k].m⟩) rs[k].m w2) :
  CopS (((w2.setCell ⟨b, k * 3, none⟩ (.slice ka rs[k].m.kept.length kc)).setCell ⟨b, k * 3 + 1, none⟩ (.slice la rs[k].m.late.length lc)).setCell ⟨b, k * 3 + 2, none⟩ (.int .i64 rs[k].m.lock)) b rs (k + 1) (putG f k ⟨ka, kc, la, lc, rs[k].m⟩) (fun i => if i ≤ k then s i else w2.heap.size) := by
 obtain ⟨h1, h2, h3⟩ := h
 have hsz := hb2.size
 have far : ∀ {lo hi : Nat} {v : Value} {m : St}, OwStore lo hi v m w2 → hi ≤ w2.heap.size → b < lo → OwStore lo hi v m (((w2.setCell ⟨b, k * 3, none⟩ (.slice ka rs[k].m.kept.length kc)).setCell ⟨b, k * 3 + 1, none⟩ (.slice la rs[k].m.late.length lc)).setCell ⟨b, k * 3 + 2, none⟩ (.int .i64 rs[k].m.lock)) := fun {lo hi v m} q hf hb => ((q.farS hf hb _).farS (by simpa using hf) hb _).farS (by simpa using hf) hb _
 have hsk : s k ≤ wr.heap.size := h2.2.2
 refine ⟨?_, ⟨?_, fun i hi => ?_, ?_⟩, fun i hi hik => ?_⟩
 ·have r1 := (h1.below hb2).put psCl_len hk 0 (by decide) (.slice ka rs[k].m.kept.length kc) ⟨ka, kc, (f k).la, (f k).lc, ⟨rs[k].m.kept, (f k).m.late, (f k).m.lock⟩⟩ rfl
  have r2 := r1.put psCl_len hk 1 (by decide) (.slice la rs[k].m.late.length lc) ⟨ka, kc, la, lc, ⟨rs[k].m.kept, rs[k].m.late, (f k).m.lock⟩⟩ (by rw [putG_same]; rfl)
  have r3 := r2.put psCl_len hk 2 (by decide) (.int .i64 rs[k].m.lock) ⟨ka, kc, la, lc, rs[k].m⟩ (by rw [putG_same]; rfl)
  simpa [putG_twice] using r3
 ·simpa using h2.1
 ·show (if i ≤ k then s i else w2.heap.size) ≤ (if i + 1 ≤ k then s (i + 1) else w2.heap.size)
  rcases Nat.lt_or_ge i k with h | h
  ·have := h2.2.1 i h
   rw [if_pos (by omega), if_pos (by omega)]
   exact this
  ·obtain rfl : i = k := by omega
   rw [if_pos (Nat.le_refl _), if_neg (by omega)]
   omega
 ·show (if k + 1 ≤ k then s (k + 1) else w2.heap.size) ≤ _
  rw [if_neg (by omega)]
  simp
 ·show _ ∧ OwStore (if i ≤ k then s i else w2.heap.size) (if i + 1 ≤ k then s (i + 1) else w2.heap.size) _ _ _
  by_cases e : i = k
  ·subst e
   rw [putG_same, if_pos (Nat.le_refl _), if_neg (by omega)]
   have hlo := h2.lo i (Nat.le_refl _)
   exact ⟨rfl, far (ho.wide hsk (Nat.le_refl _)) (Nat.le_refl _) (by omega)⟩
  ·rw [putG_ne _ _ e, if_pos (by omega), if_pos (by omega)]
   have q := h3 i hi (by omega)
   have a1 := h2.lo i (by omega)
   have a2 := h2.hi (i + 1) (by omega)
   exact ⟨q.1, far (q.2.belowS a2 hb2) (by omega) (by omega)⟩
def mkSt (k : Nat) (m : St) : St := ⟨mkEntryS k m.kept, mkEntryS (k + cntEntryS m.kept) m.late, ((k + cntEntryS m.kept + cntEntryS m.late : Nat) : Int)⟩
def mkFS (k0 : Nat) (rs : List Ps) (k : Nat) (i : Nat) : Ps :=
 if i < k then ⟨(rs.getD i zeroPs).ka, (rs.getD i zeroPs).kc, (rs.getD i zeroPs).la, (rs.getD i zeroPs).lc, mkSt (k0 + cntStoreS ((rs.map Ps.m).take i)) (rs.getD i zeroPs).m⟩ else rs.getD i zeroPs
def MarkS (lo hi k0 : Nat) (w wr : World) (b off : Nat) (rs : List Ps) (s : Nat → Nat) (k : Nat) : Prop :=
 RowG 3 psCl wr b off rs.length (mkFS k0 rs k) ∧ (∀ i, i < rs.length → OwStore (s i) (s (i + 1)) (psVal (mkFS k0 rs k i)) (mkFS k0 rs k i).m wr) ∧ Wr lo hi w wr ∧ hi ≤ wr.heap.size
theorem getD_ps {rs : List Ps} {k : Nat} (h : k < rs.length) : rs.getD k zeroPs = rs[k] := by rw [List.getD_eq_getElem?_getD, List.getElem?_eq_getElem h]; rfl
theorem MarkS.step {lo hi k0 : Nat} {w wr w2 : World} {b off k : Nat} {rs : List Ps} {s : Nat → Nat} (h : MarkS lo hi k0 w wr b off rs s k) (hk : k < rs.length) (hb1 : lo ≤ b) (hs0 : b < s 0) (hsp : Spn s rs.length lo hi)
  (o1 : OwEntryS (s k) (s (k + 1)) (.slice rs[k].ka rs[k].m.kept.length rs[k].kc) (mkEntryS (k0 + cntStoreS ((rs.map Ps.m).take k)) rs[k].m.kept) w2) (o2 : OwEntryS (s k) (s (k + 1)) (.slice rs[k].la rs[k].m.late.length rs[k].lc) (mkEntryS (k0 + cntStoreS ((rs.map Ps.m).take k) + cntEntryS rs[k].m.kept) rs[k].m.late) w2)
  (sep : rs[k].m.kept = [] ∨ rs[k].m.late = [] ∨ bO (.slice rs[k].ka rs[k].m.kept.length rs[k].kc) ≠ bO (.slice rs[k].la rs[k].m.late.length rs[k].lc)) (hW : Wr (s k) (s (k + 1)) wr w2) :
  RowG 3 psCl w2 b off rs.length (mkFS k0 rs k) ∧ MarkS lo hi k0 w (w2.setCell ⟨b, off + k * 3 + 2, none⟩ (.int .i64 ((k0 + cntStoreS ((rs.map Ps.m).take k) + cntEntryS rs[k].m.kept + cntEntryS rs[k].m.late : Nat) : Int))) b off rs s (k + 1) := by
 obtain ⟨h1, h2, h3, h4⟩ := h
 have ek : mkFS k0 rs k k = rs[k] := by unfold mkFS; rw [if_neg (by omega), getD_ps hk]
 have ek1 : mkFS k0 rs (k + 1) k = ⟨rs[k].ka, rs[k].kc, rs[k].la, rs[k].lc, mkSt (k0 + cntStoreS ((rs.map Ps.m).take k)) rs[k].m⟩ := by unfold mkFS; rw [if_pos (by omega), getD_ps hk]
 have ei : ∀ i, i ≠ k → mkFS k0 rs (k + 1) i = mkFS k0 rs k i := fun i hi => by
  unfold mkFS
  by_cases e : i < k
  ·rw [if_pos (by omega), if_pos e]
  ·rw [if_neg (by omega), if_neg e]
 have l0 := hsp.lo k (by omega)
 have l1 := hsp.hi (k + 1) (by omega)
 have l2 := hsp.mono k 0 (Nat.zero_le _) (by omega)
 have l3 := hsp.mono (k + 1) k (by omega) (by omega)
 have hbh : b < hi := by omega
 have hsz := hW.size
 have hR : RowG 3 psCl w2 b off rs.length (mkFS k0 rs k) := h1.wr hW (.inl (by omega))
 refine ⟨hR, ?_, fun i hil => ?_, ?_, ?_⟩
 ·have r1 := hR.put psCl_len hk 2 (by decide) (.int .i64 ((k0 + cntStoreS ((rs.map Ps.m).take k) + cntEntryS rs[k].m.kept + cntEntryS rs[k].m.late : Nat) : Int)) ⟨rs[k].ka, rs[k].kc, rs[k].la, rs[k].lc, mkSt (k0 + cntStoreS ((rs.map Ps.m).take k)) rs[k].m⟩ (by rw [ek]; unfold psCl mkSt; simp only [mkEntryS_len]; rfl)
  refine r1.congr fun i hi => ?_
  by_cases e : i = k
  ·subst e
   rw [putG_same, ek1]
  ·rw [putG_ne _ _ e, ei i e]
 ·by_cases e : i = k
  ·subst e
   rw [ek1]
   have q : OwStore (s i) (s (i + 1)) (psVal ⟨rs[i].ka, rs[i].kc, rs[i].la, rs[i].lc, mkSt (k0 + cntStoreS ((rs.map Ps.m).take i)) rs[i].m⟩) (mkSt (k0 + cntStoreS ((rs.map Ps.m).take i)) rs[i].m) w2 := by
    refine ⟨_, _, by unfold psVal mkSt; simp only [mkEntryS_len], o1, o2, ?_⟩
    rcases sep with h | h | h
    ·exact .inl (mkEntryS_nil.2 h)
    ·exact .inr (.inl (mkEntryS_nil.2 h))
    ·exact .inr (.inr h)
   exact q.farS (by omega) (by omega) _
  ·rw [ei i e]
   have a1 := hsp.lo i (by omega)
   have a2 := hsp.hi (i + 1) (by omega)
   have a3 := hsp.mono i 0 (Nat.zero_le _) (by omega)
   refine ((h2 i hil).wrS (by omega) hW ?_).farS (by omega) (by omega) _
   rcases Nat.lt_or_gt_of_ne e with h | h
   ·have := hsp.mono k (i + 1) (by omega) (by omega)
    exact .inl (by omega)
   ·have := hsp.mono i (k + 1) (by omega) (by omega)
    exact .inr (by omega)
 ·exact (h3.trans (hW.wider l0 l1)).set hb1 hbh _
 ·simp
  omega
section
variable {H : Type} {enc : TypeId × Value → H} {W : World} {r : Reach} {b0 base : Nat} {held : Bool} {v : Value} {d : DataW H} {p : List MemPlace}
def okStoreS (ms : List St) : Prop := ∀ m ∈ ms, fitS m
end
theorem step_setLen {ops : Array Oper} {o : Oper} {a : Act} {w : World} {K : Act → World → Prop} {Q : Exit → Act → World → Prop} {E : Prop}
  (hg : o.guard = none) (m : Operand) (hop : o.op = .call { callee := .builtin .len, args := #[m], argTypes := #[254] })
  (b : Nat) (xs : List Int) (hm : a.eval m = .map (some b)) (h : SetN w b xs) (hK : K (a.put o.dst (.int .i64 (xs.length : Int))) w) :
  if Region.wanted o (yielded ops a.tmps) = true then Oper.wp Tryz.prog o a w K Q else E := by
 have hw : Region.wanted o (yielded ops a.tmps) = true := by simp [Region.wanted, hg]
 rw [if_pos hw]
 obtain ⟨h1, h2, D, h3, h4, h5⟩ := h
 have hr := h3.len Tryz.underlying254 o.type
 rw [h4] at hr
 unfold Oper.wp
 simp [execOp, hop, resolve, invoke, builtin, hm, hr, Result.andThen]
 exact hK
set_option maxHeartbeats 2000000 in
theorem implNodes_any (sv v : Value) (ds xs : List Int) (cop : Int) (w : World) (hd : Ns w sv ds) (hv : Ns w v xs) (had : allInt ds) (hax : allInt xs) (hld : ds.length ≤ 1048576) (hlx : xs.length ≤ 1048576) (c0 : -9223372036854775808 ≤ cop) (c1 : cop ≤ 9223372036854775807) :
  Calls Tryz.prog 66 #[.agg #[sv, .int .i64 cop], v] w fun e w' => RetB (nodesP ds cop xs) e ∧ Below w.heap.size w w' := by
 have hb0 : ∀ o, Below w.heap.size w (w.alloc o) := fun o => (Below.refl _ _).alloc (Nat.le_refl _) o
 have C1 := dH fun o => implCfg_any sv ds cop (w.alloc o) (hd.below (hb0 o)) had hld c0 c1
 have C2 := dH fun W (hb : Below w.heap.size w W) => ascBelow_any v xs (ds.length : Int) W (hv.below hb)
 obtain ⟨h0, a, cap, rfl, -, -⟩ := hd
 obtain ⟨h0', a', cap', rfl, -, -⟩ := hv
 clear had hax
 go_enter Tryz.func66, Tryz.ntmps66
 go_wp2_with fail
 refine (dU C1 _).mono ?_
 rintro e w1 ⟨⟨b, rfl, hbb⟩, b1⟩
 have B1 := bT (hb0 _) b1
 have k0 : w1.cell? ⟨w.heap.size, 0, none⟩ = some (.slice a ds.length cap) := (b1.cell (p := ⟨w.heap.size, 0, none⟩) (by simp)).trans (by simp)
 clear b1 hb0 C1
 cases b
 ·have hno : Hid (¬ nodesP ds cop xs) := fun h => by have := hbb.2 h.1; cases this
  clear hbb
  go_wp2
  go_ret
  exact ⟨RetB.no (dU hno), B1⟩
 ·have hyes := hbb.1 rfl
  have HY := dH hyes
  clear hbb hyes
  go_wp2_with fail
  refine (dU C2 _ B1).mono ?_
  rintro e w2 ⟨⟨b, rfl, hbb⟩, rfl⟩
  have R : RetB (nodesP ds cop xs) (.returned (.bool b)) := ⟨b, rfl, fun h => ⟨dU HY, hbb.1 h⟩, fun h => hbb.2 h.2⟩
  clear hbb C2 k0 HY
  cases b
  ·go_wp2
   go_ret
   exact ⟨R, B1⟩
  ·go_wp2
   go_ret
   exact ⟨R, B1⟩
theorem nodes_asc {ds xs : List Int} {cop : Int} (h : nodesP ds cop xs) : xs.Pairwise (· < ·) := ((ascP_iff _ _ _).1 h.2).1
theorem nodup_of_asc {xs : List Int} (h : xs.Pairwise (· < ·)) : xs.Nodup := h.imp fun {a b} h e => by omega
theorem dedL_nodes {ds xs : List Int} {cop : Int} (h : nodesP ds cop xs) : dedL xs = xs := dedL_nodup (nodup_of_asc (nodes_asc h))
set_option maxHeartbeats 2000000 in
theorem implSpan_yes (sv v : Value) (ds xs : List Int) (cop : Int) (w : World) (hd : Ns w sv ds) (hv : Ns w v xs) (had : allInt ds) (hax : allInt xs) (hld : ds.length ≤ 1048576) (hlx : xs.length ≤ 1048576) (c0 : -9223372036854775808 ≤ cop) (c1 : cop ≤ 9223372036854775807) (hn : nodesP ds cop xs) :
  Calls Tryz.prog 143 #[.agg #[sv, .int .i64 cop], v] w fun e w' => e = .returned (.int .i64 (spanN ds xs : Int)) ∧ Below w.heap.size w w' := by
 have hb0 : ∀ o, Below w.heap.size w (w.alloc o) := fun o => (Below.refl _ _).alloc (Nat.le_refl _) o
 have C1 := dH fun o => implNodes_any sv v ds xs cop (w.alloc o) (hd.below (hb0 o)) (hv.below (hb0 o)) had hax hld hlx c0 c1
 have C2 := dH fun W (hb : Below w.heap.size w W) => setOf_any v xs W (hv.below hb) hax hlx
 rw [dedL_nodes hn] at C2
 have C3 := dH fun b W (hb : Below w.heap.size w W) hs => domainsOf_any sv b ds xs cop W (hd.below hb) hs hn hlx
 have HN := dH hn
 clear hn had hax
 have hsp : (spanN ds xs : Int) = ((domsOf ds xs).length : Int) := rfl
 have HSP := dH hsp
 clear hsp
 obtain ⟨h0, a, cap, rfl, -, -⟩ := hd
 obtain ⟨h0', a', cap', rfl, -, -⟩ := hv
 go_enter Tryz.func143, Tryz.ntmps143
 go_wp2_with fail
 have T0 := Two.new w (.slice a ds.length cap) (.int .i64 cop) 26
 refine (dU C1 _).mono ?_
 rintro e w1 ⟨hr, b1⟩
 obtain rfl := hr.of_yes (dU HN)
 have T1 := T0.kept b1
 have HT := dH T1
 obtain ⟨k0, k1⟩ := T1
 have B1 := bT (hb0 _) b1
 clear hr b1 hb0 C1 T0
 generalize domsOf ds xs = L at *
 go_wp2_with fail
 have hbr := Below.refl w1.heap.size w1
 refine wp_region_noPanic ?_
 refine wp_region_held_drew (S := (fun W => W.cell? ⟨w.heap.size, 0, none⟩ = some (.slice a ds.length cap) ∧ W.cell? ⟨w.heap.size, 1, none⟩ = some (.int .i64 cop))) (by kernel_rfl) ?_ (fun hHeld => ?_)
 ·go_keep
 refine tY 0 (v := ?_) rfl (by kernel_rfl) (.inl ⟨by rfl, ?_⟩) ‹_› ?_
 rotate_left 1
 ·intro w hSw
  (try dsimp only at hSw)
  first | (go_simp; done) | (go_simp; with_reducible rfl)
 try simp only [Act.put, sA, sB, sC]
 refine tY 1 (v := ?_) rfl (by kernel_rfl) (.inl ⟨by rfl, ?_⟩) ‹_› ?_
 rotate_left 1
 ·intro w hSw
  (try dsimp only at hSw)
  first | (go_simp; done) | (go_simp; with_reducible rfl)
 try simp only [Act.put, sA, sB, sC]
 refine wpAnyH_ready (rs := [2]) (by kernel_rfl) (by simp) ?_
 refine rC rfl (fun K hK => ?_) AllReadyH.nil
 go_simp
 refine (dU C2 _ (bT B1 hbr.drew)).mono ?_
 rintro e w2 ⟨rfl, s2, b2⟩
 have hb2 := bT hbr.drew b2
 obtain ⟨q0, q1⟩ := (dU HT).kept hb2
 (try go_wp2_with fail)
 refine hK.out _ _ ?_ (fun hHeld => ?_)
 ·go_keep
 clear hK K
 try simp only [Act.put, sA, sB, sC]
 refine wpAnyH_ready (rs := [3]) (by kernel_rfl) (by simp) ?_
 refine rC rfl (fun K hK => ?_) AllReadyH.nil
 go_simp
 refine (dU C3 _ _ (bT B1 hb2) s2).mono ?_
 rintro e w3 ⟨rfl, s3, b3⟩
 have hb3 := bT hb2 b3
 obtain ⟨q0, q1⟩ := (dU HT).kept hb3
 (try go_wp2_with fail)
 refine hK.out _ _ ?_ (fun hHeld => ?_)
 ·go_keep
 clear hK K
 try simp only [Act.put, sA, sB, sC]
 refine wpAnyH_ready (rs := [4]) (by kernel_rfl) (by simp) ?_
 refine rC rfl (fun K hK => ?_) AllReadyH.nil
 refine step_setLen rfl _ rfl _ L rfl s3 ?_
 refine hK.out _ _ ?_ (fun hHeld => ?_)
 ·go_keep
 clear hK K
 try simp only [Act.put, sA, sB, sC]
 refine tY 5 (v := ?_) rfl (by kernel_rfl) (.inl ⟨by rfl, ?_⟩) ‹_› ?_
 rotate_left 1
 ·intro w hSw
  (try dsimp only at hSw)
  first | (go_simp; done) | (go_simp; with_reducible rfl)
 try simp only [Act.put, sA, sB, sC]
 refine wpAnyH_done (by kernel_rfl) ?_ _
 refine NoPanic.normal ?_
 go_wp2
 go_ret
 exact ⟨by rw [dU HSP]; rfl, bT B1 hb3⟩
set_option maxHeartbeats 2000000 in
theorem implHolds_any (sv v : Value) (ds xs : List Int) (cop : Int) (w : World) (hd : Ns w sv ds) (hv : Ns w v xs) (had : allInt ds) (hax : allInt xs) (hld : ds.length ≤ 1048576) (hlx : xs.length ≤ 1048576) (c0 : -9223372036854775808 ≤ cop) (c1 : cop ≤ 9223372036854775807) :
  Calls Tryz.prog 70 #[.agg #[sv, .int .i64 cop], v] w fun e w' => RetB (holdsP ds cop xs) e ∧ Below w.heap.size w w' := by
 have hb0 : ∀ o, Below w.heap.size w (w.alloc o) := fun o => (Below.refl _ _).alloc (Nat.le_refl _) o
 have C1 := dH fun W (hb : Below w.heap.size w W) => implNodes_any sv v ds xs cop W (hd.below hb) (hv.below hb) had hax hld hlx c0 c1
 have C2 := dH fun W (hb : Below w.heap.size w W) hn => implSpan_yes sv v ds xs cop W (hd.below hb) (hv.below hb) had hax hld hlx c0 c1 hn
 clear had hax
 obtain ⟨h0, a, cap, rfl, -, -⟩ := hd
 obtain ⟨h0', a', cap', rfl, -, -⟩ := hv
 by_cases hn : nodesP ds cop xs
 ·have HN := dH hn
  have C2 := dH fun W hb => dU C2 W hb hn
  have R : RetB (holdsP ds cop xs) (.returned (.bool (decide (cop ≤ (spanN ds xs : Int))))) := ⟨_, rfl, fun h => ⟨hn, of_decide_eq_true h⟩, fun h => decide_eq_true h.2⟩
  clear hn
  generalize (spanN ds xs : Int) = N at *
  go_enter Tryz.func70, Tryz.ntmps70
  go_wp2
  have T0 := Two.new w (.slice a ds.length cap) (.int .i64 cop) 26
  have B0 := hb0 (.cells #[.slice a ds.length cap, .int .i64 cop] 26)
  generalize hW : w.alloc (.cells #[.slice a ds.length cap, .int .i64 cop] 26) = w0 at *
  clear hW hb0
  have HT := dH T0
  obtain ⟨k0, k1⟩ := T0
  have hbr := Below.refl w0.heap.size w0
  go_region_held3 (fun W => W.cell? ⟨w.heap.size, 0, none⟩ = some (.slice a ds.length cap) ∧ W.cell? ⟨w.heap.size, 1, none⟩ = some (.int .i64 cop)) (go_keep)
   (first
    | (go_at_call 66; refine (dU C1 _ (bT B0 hbr.drew)).mono ?_; rintro e w1 ⟨hr, b1⟩; obtain rfl := hr.of_yes (dU HN); have hb1 := bT hbr.drew b1; obtain ⟨q0, q1⟩ := (dU HT).kept hb1)
    | (go_at_call 143; refine (dU C2 _ (bT B0 hb1)).mono ?_; rintro e w2 ⟨rfl, b2⟩; have hb2 := bT hb1 b2; obtain ⟨q0, q1⟩ := (dU HT).kept hb2))
  all_goals
   go_wp2
   go_ret
   exact ⟨R, bT B0 hb2⟩
 ·have HN := dH hn
  have R : RetB (holdsP ds cop xs) (.returned (.bool false)) := RetB.no fun h => hn h.1
  clear hn C2
  go_enter Tryz.func70, Tryz.ntmps70
  go_wp2
  have T0 := Two.new w (.slice a ds.length cap) (.int .i64 cop) 26
  have B0 := hb0 (.cells #[.slice a ds.length cap, .int .i64 cop] 26)
  generalize hW : w.alloc (.cells #[.slice a ds.length cap, .int .i64 cop] 26) = w0 at *
  clear hW hb0
  have HT := dH T0
  obtain ⟨k0, k1⟩ := T0
  have hbr := Below.refl w0.heap.size w0
  refine wp_region_noPanic ?_
  refine wp_region_held_drew (S := fun W => W.cell? ⟨w.heap.size, 0, none⟩ = some (.slice a ds.length cap) ∧ W.cell? ⟨w.heap.size, 1, none⟩ = some (.int .i64 cop)) (by kernel_rfl) ?_ (fun hHeld => ?_)
  ·go_keep
  refine tY 0 (v := ?_) rfl (by kernel_rfl) (.inl ⟨by rfl, ?_⟩) ‹_› ?_
  rotate_left 1
  ·intro w hSw
   (try dsimp only at hSw)
   first | (go_simp; done) | (go_simp; with_reducible rfl)
  try simp only [Act.put, sA, sB, sC]
  refine tY 1 (v := ?_) rfl (by kernel_rfl) (.inl ⟨by rfl, ?_⟩) ‹_› ?_
  rotate_left 1
  ·intro w hSw
   (try dsimp only at hSw)
   first | (go_simp; done) | (go_simp; with_reducible rfl)
  try simp only [Act.put, sA, sB, sC]
  refine wpAnyH_ready (rs := [2]) (by kernel_rfl) (by simp) ?_
  refine rC rfl (fun K hK => ?_) AllReadyH.nil
  go_simp
  refine (dU C1 _ (bT B0 hbr.drew)).mono ?_
  rintro e w1 ⟨hr, b1⟩
  obtain rfl := hr.of_no (dU HN)
  have hb1 := bT hbr.drew b1
  obtain ⟨q0, q1⟩ := (dU HT).kept hb1
  (try go_wp2_with fail)
  refine hK.out _ _ ?_ (fun hHeld => ?_)
  ·go_keep
  clear hK K
  try simp only [Act.put, sA, sB, sC]
  refine tY 3 (v := ?_) rfl (by kernel_rfl) (.inl ⟨by rfl, ?_⟩) ‹_› ?_
  rotate_left 1
  ·intro w hSw
   (try dsimp only at hSw)
   first | (go_simp; done) | (go_simp; with_reducible rfl)
  try simp only [Act.put, sA, sB, sC]
  refine tY 4 rfl (by kernel_rfl) (.inr ⟨by rfl, rfl⟩) ‹_› ?_
  try simp only [Act.put, sA, sB, sC]
  refine tY 5 rfl (by kernel_rfl) (.inr ⟨by rfl, rfl⟩) ‹_› ?_
  try simp only [Act.put, sA, sB, sC]
  refine tY 6 rfl (by kernel_rfl) (.inr ⟨by rfl, rfl⟩) ‹_› ?_
  try simp only [Act.put, sA, sB, sC]
  refine tY 7 rfl (by kernel_rfl) (.inr ⟨by rfl, rfl⟩) ‹_› ?_
  try simp only [Act.put, sA, sB, sC]
  refine tY 8 rfl (by kernel_rfl) (.inr ⟨by rfl, rfl⟩) ‹_› ?_
  try simp only [Act.put, sA, sB, sC]
  refine tY 9 rfl (by kernel_rfl) (.inr ⟨by rfl, rfl⟩) ‹_› ?_
  try simp only [Act.put, sA, sB, sC]
  refine tY 10 (v := ?_) rfl (by kernel_rfl) (.inl ⟨by rfl, ?_⟩) ‹_› ?_
  rotate_left 1
  ·intro w hSw
   (try dsimp only at hSw)
   first | (go_simp; done) | (go_simp; with_reducible rfl)
  try simp only [Act.put, sA, sB, sC]
  refine tY 11 (v := ?_) rfl (by kernel_rfl) (.inl ⟨by rfl, ?_⟩) ‹_› ?_
  rotate_left 1
  ·intro w hSw
   (try dsimp only at hSw)
   first | (go_simp; done) | (go_simp; with_reducible rfl)
  try simp only [Act.put, sA, sB, sC]
  refine wpAnyH_done (by kernel_rfl) ?_ _
  refine NoPanic.normal ?_
  go_wp2
  go_ret
  exact ⟨R, bT B0 hb1⟩
theorem keepL_yes {e x : Ent} {l : List Ent} (h : ∃ a ∈ l, ¬ a.pl < e.pl) : keepL e (l ++ [x]) = keepL e l ++ [x] := by
 induction l with
 | nil => obtain ⟨a, ha, -⟩ := h; cases ha
 | cons c l ih =>
  rw [List.cons_append]
  unfold keepL
  by_cases h1 : c.pl = e.pl
  ·rw [if_pos h1, if_pos h1]; rfl
  ·rw [if_neg h1, if_neg h1]
   by_cases h2 : e.pl < c.pl
   ·rw [if_pos h2, if_pos h2]; rfl
   ·rw [if_neg h2, if_neg h2, ih ?_]
    ·rfl
    ·obtain ⟨a, ha, hn⟩ := h
     rcases List.mem_cons.1 ha with rfl | ha
     ·omega
     ·exact ⟨a, ha, hn⟩
theorem keepL_all {e : Ent} {l : List Ent} (h : ∀ a ∈ l, a.pl < e.pl) (r : List Ent) : keepL e (l ++ r) = l ++ keepL e r := by
 induction l with
 | nil => rfl
 | cons c l ih =>
  have hc := h c (by simp)
  rw [List.cons_append]
  conv => lhs; unfold keepL
  rw [if_neg (by omega), if_neg (by omega), ih fun a ha => h a (by simp [ha])]
  rfl
def KeepAt (e : Ent) (l zs : List Ent) (p : Bool) : Prop := (p = true → (∃ a ∈ l, ¬ a.pl < e.pl) ∧ zs = keepL e l) ∧ (p = false → (∀ a ∈ l, a.pl < e.pl) ∧ zs = l)
theorem KeepAt.same {e x : Ent} {l zs : List Ent} (h : KeepAt e l zs false) (hx : x.pl = e.pl) : KeepAt e (l ++ [x]) (zs ++ [better x e]) true := by
 obtain ⟨h1, rfl⟩ := h.2 rfl
 refine ⟨fun _ => ⟨⟨x, by simp, by omega⟩, ?_⟩, fun h => by cases h⟩
 rw [keepL_all h1]
 unfold keepL
 rw [if_pos hx]
theorem KeepAt.ahead {e x : Ent} {l zs : List Ent} (h : KeepAt e l zs false) (hx : e.pl < x.pl) : KeepAt e (l ++ [x]) (zs ++ [e] ++ [x]) true := by
 obtain ⟨h1, rfl⟩ := h.2 rfl
 refine ⟨fun _ => ⟨⟨x, by simp, by omega⟩, ?_⟩, fun h => by cases h⟩
 rw [keepL_all h1]
 unfold keepL
 rw [if_neg (by omega), if_pos hx]
 simp
theorem KeepAt.on {e x : Ent} {l zs : List Ent} {p : Bool} (h : KeepAt e l zs p) (hx : p = true ∨ x.pl < e.pl) : KeepAt e (l ++ [x]) (zs ++ [x]) p := by
 cases p
 ·obtain ⟨h1, rfl⟩ := h.2 rfl
  have hx : x.pl < e.pl := by rcases hx with h | h; cases h; exact h
  refine ⟨(fun h => by cases h), fun _ => ⟨fun a ha => ?_, rfl⟩⟩
  rcases List.mem_append.1 ha with ha | ha
  ·exact h1 a ha
  ·rw [List.mem_singleton.1 ha]; exact hx
 ·obtain ⟨⟨a, ha, hn⟩, rfl⟩ := h.1 rfl
  exact ⟨fun _ => ⟨⟨a, by simp [ha], hn⟩, by rw [keepL_yes ⟨a, ha, hn⟩]⟩, fun h => by cases h⟩
theorem KeepAt.len {e : Ent} {l zs : List Ent} {p : Bool} (h : KeepAt e l zs p) : zs.length ≤ l.length + 1 := by
 cases p
 ·rw [(h.2 rfl).2]; omega
 ·rw [(h.1 rfl).2]; exact (keepL_len e l).1
set_option maxHeartbeats 2000000 in
theorem indexI_any (v : Value) (xs : List Int) (y : Int) (w : World) (hv : Ns w v xs) :
  Calls Tryz.prog 264 #[v, .int .i64 y] w fun e w' => (∃ n : Int, e = .returned (.int .i64 n) ∧ (0 ≤ n ↔ y ∈ xs)) ∧ w' = w := by
 obtain ⟨h0, a, cap, rfl, -, hv⟩ := hv
 have HV := dH hv
 clear hv
 have FY : Hid (∀ k : Nat, y ∈ xs → ∃ n : Int, Ending.returned (.int .i64 (k : Int)) = .returned (.int .i64 n) ∧ (0 ≤ n ↔ y ∈ xs)) := fun k h => ⟨_, rfl, fun _ => h, fun _ => by omega⟩
 have FN : Hid (¬ y ∈ xs → ∃ n : Int, Ending.returned (.int .i64 (-1)) = .returned (.int .i64 n) ∧ (0 ≤ n ↔ y ∈ xs)) := fun h => ⟨_, rfl, fun h' => absurd h' (by decide), fun h' => absurd h' h⟩
 generalize hG : (fun e => ∃ n : Int, e = Ending.returned (.int .i64 n) ∧ (0 ≤ n ↔ y ∈ xs)) = G
 have HG : Hid (∀ e, (∃ n : Int, e = Ending.returned (.int .i64 n) ∧ (0 ≤ n ↔ y ∈ xs)) → G e) := fun e h => by rw [← hG]; exact h
 have key : Calls Tryz.prog 264 #[.slice a xs.length cap, .int .i64 y] w fun e w' => G e ∧ w' = w := by
  clear hG
  go_enter Tryz.func264, Tryz.ntmps264
  go_wp2
  go_loop [8] (fun x => ∃ k : Nat, x = .int .i64 (k : Int) ∧ k ≤ xs.length ∧ Hid (∀ i (h : i < xs.length), i < k → xs[i] ≠ y)) (fun x => xs.length - (intOf x).toNat)
  case atStart => exact ⟨0, rfl, Nat.zero_le _, fun i h h' => by omega⟩
  case round =>
   obtain ⟨k, rfl, hk, hinv⟩ := hrel
   by_cases hlt : (k : Int) < (xs.length : Int)
   ·obtain ⟨b, off, rfl, hc⟩ : ∃ b off, a = some ⟨b, off, none⟩ ∧ ∀ i (h : i < xs.length), w.cell? ⟨b, off + i, none⟩ = some (.int .i64 xs[i]) := orN_of_lt (dU HV) (k := k) (by omega)
    have hkl : k < xs.length := by omega
    have c1 := hc k hkl
    obtain ⟨x, hx⟩ : ∃ x, xs[k] = x := ⟨_, rfl⟩
    have HX := dH hx
    rw [hx] at c1
    clear hx hc
    by_cases hxy : y = x
    ·have hxy' : (y == x) = true := by simp [hxy]
     have hyes : Hid (y ∈ xs) := by rw [Hid, hxy, ← dU HX]; exact List.getElem_mem hkl
     have FIN := dH (dU HG _ (dU FY k (dU hyes)))
     clear hinv HX HV hxy FY FN HG hyes
     go_wp2
     go_ret
     exact ⟨dU FIN, rfl⟩
    ·have hxy' : (y == x) = false := by simp [hxy]
     have hst : Hid (∀ i (h : i < xs.length), i < k + 1 → xs[i] ≠ y) := fun i h h' => by
      rcases Nat.lt_or_ge i k with hlt' | hge
      ·exact dU hinv i h hlt'
      ·obtain rfl : i = k := by omega
       rw [dU HX]
       exact fun e => hxy e.symm
     clear hinv HX HV hxy
     go_wp2
     go_round
     case rel => exact ⟨k + 1, by go_num, by omega, hst⟩
     case measure => simp [intOf]; omega
   ·have hno : Hid (¬ y ∈ xs) := fun h => by
     obtain ⟨i, hi, e⟩ := List.getElem_of_mem h
     exact dU hinv i hi (by omega) e
    have FIN := dH (dU HG _ (dU FN (dU hno)))
    clear hinv HV FY FN HG hno
    go_wp2
    go_ret
    exact ⟨dU FIN, rfl⟩
 rw [← hG] at key
 exact key
theorem containsI_any (v : Value) (xs : List Int) (y : Int) (w : World) (hv : Ns w v xs) :
  Calls Tryz.prog 195 #[v, .int .i64 y] w fun e w' => RetB (y ∈ xs) e ∧ w' = w := by
 have C := dH (indexI_any v xs y w hv)
 have HD : Hid (∀ n : Int, (0 ≤ n ↔ y ∈ xs) → RetB (y ∈ xs) (.returned (.bool (decide (0 ≤ n))))) := fun n h => ⟨_, rfl, by rw [← h]; exact decide_eq_true_iff⟩
 obtain ⟨h0, a, cap, rfl, -, -⟩ := hv
 go_enter Tryz.func195, Tryz.ntmps195
 go_wp2_with fail
 refine (dU C).mono ?_
 rintro e w1 ⟨⟨n, rfl, hn⟩, rfl⟩
 have F := dH (dU HD n hn)
 clear hn C HD
 go_wp2
 go_ret
 exact ⟨dU F, rfl⟩
end Go.Proofs.YtodfgehicpejgaaGreatDoor
