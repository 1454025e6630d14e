/- spec's l9Copy (printed by tools/mkmnc.py). -/
import Derived.Test.YtjkjmapibcfcdaaGreatGz9
import Derived.Test.YtjkjmapibcfcdaaGreatGx6
import Derived.Deep.RegionHeld3
import Derived.Deep.DeepCutAuto
namespace Go.Proofs.YtjkjmapibcfcdaaGreat
open Go.ChangeShapes Go.WideShapes Go.ChangeAt Go.RowKit
set_option linter.unusedVariables false
set_option linter.unusedSimpArgs false
set_option maxRecDepth 100000

theorem sepA {p q : Prop} {x y n : Nat} (h : q ∨ y < n) (g : p ∨ n ≤ x) : p ∨ q ∨ x ≠ y := by
 rcases h with h | h
 ·exact .inr (.inl h)
 ·rcases g with g | g
  ·exact .inl g
  ·exact .inr (.inr (by omega))
theorem sepB {p q : Prop} {x y n : Nat} (h : p ∨ x < n) (g : q ∨ n ≤ y) : p ∨ q ∨ x ≠ y := by
 rcases h with h | h
 ·exact .inl h
 ·rcases g with g | g
  ·exact .inr (.inl g)
  ·exact .inr (.inr (by omega))
theorem sepC {p : Prop} {x b n : Nat} (g : p ∨ n ≤ x) (h : b < n) : p ∨ x ≠ b := by
 rcases g with g | g
 ·exact .inl g
 ·exact .inr (by omega)
theorem sepD {p : Prop} {x n : Nat} (g : p ∨ x < n) : p ∨ x ≠ n := by
 rcases g with g | g
 ·exact .inl g
 ·exact .inr (by omega)
theorem OwnRw.put4 {w : World} {base b o : Nat} {v : Value} {m : List Ent} (h : OwnRw 4 Ent.cl w base v m) (hb : m = [] ∨ bO v ≠ b) (u : Value) : OwnRw 4 Ent.cl (w.setCell ⟨b, o, none⟩ u) base v m := by
 obtain ⟨h0, a, cap, rfl, hcap, h⟩ := h
 refine ⟨h0, a, cap, rfl, hcap, ?_⟩
 rcases h with h | ⟨b', off, rfl, hb', hc⟩
 ·exact .inl h
 ·rcases hb with hb | hb
  ·exact .inl hb
  ·exact .inr ⟨b', off, rfl, hb', fun i hi j u' hu => ⟨sO (hc i hi j u' hu).1 (.inl hb), (World.frozen?_setCell _ _ _ _).trans (hc i hi j u' hu).2⟩⟩
theorem OwnN.put4 {w : World} {base b o : Nat} {v : Value} {m : List Int} (h : OwnN w base v m) (hb : m = [] ∨ bO v ≠ b) (u : Value) : OwnN (w.setCell ⟨b, o, none⟩ u) base v m := (OwN.putW (lo := base) (hi := w.heap.size) ⟨h, h.bs.lt⟩ hb u).1
theorem OwnRw.grown4 {w w' : World} {base : Nat} {v : Value} {m : List Ent} {row : Option Nat} (h : OwnRw 4 Ent.cl w base v m) (g : w.grownBy w' row) (hn : m = [] ∨ row ≠ some (bO v)) : OwnRw 4 Ent.cl w' base v m := by
 have hlt := h.lt
 obtain ⟨h0, a, cap, rfl, hcap, h⟩ := h
 refine ⟨h0, a, cap, rfl, hcap, ?_⟩
 rcases h with h | ⟨b', off, rfl, hb', hc⟩
 ·exact .inl h
 ·rcases hn with hn | hn
  ·exact .inl hn
  ·rcases hlt with hlt | hlt
   ·exact .inl hlt
   ·have e := g.block b' hlt (fun e => hn (e.symm.trans rfl))
    exact .inr ⟨b', off, rfl, hb', fun i hi j u' hu => ⟨(World.cell?_of_block (a := ⟨b', off + i * 4 + j, none⟩) e).trans (hc i hi j u' hu).1, (World.frozen?_of_block (a := ⟨b', off + i * 4 + j, none⟩) e).trans (hc i hi j u' hu).2⟩⟩
theorem op_appR {w w' : World} {o : Oper} {a : Act} {Q : Exit → Act → World → Prop} {K : Act → World → Prop} (s x : Operand) (T1 T2 : TypeId) (hop : o.op = .call { callee := .builtin .append, args := #[s, x], argTypes := #[T1, T2] })
  (v u : Value) (hs : a.eval s = v) (hx : a.eval x = u) {v' : Value} (hr : (Builtin.append_ #[T1, T2] o.type #[v, u]).run Tryz.prog w = .ok v' w') (h : K (a.put o.dst v') w') : Oper.wp Tryz.prog o a w K Q := by
 unfold Oper.wp
 simp [execOp, hop, resolve, invoke, builtin, hs, hx, hr, Result.andThen]
 exact h
set_option maxHeartbeats 16000000 in
theorem l9Copy_ap (v : Value) (m : Mn) (w : World) (hv : RdMend v m w) (hs : sizMend m ≤ 4194304) :
  Calls Tryz.prog 33 #[v] w fun e w' => (∃ sv ev wv qs, e = .returned (.agg #[.int .i64 m.bye, .int .i64 m.epoch, sv, ev, .bool m.planned, wv]) ∧ qs.map Nst.m = m.wrote ∧ MIn w.heap.size w'.heap.size sv ev wv qs m.sealed m.seen w') ∧ Below w.heap.size w w' := by
 have ba : ∀ (w : World) o, Below w.heap.size w (w.alloc o) := fun w o => (Below.refl _ _).alloc (Nat.le_refl _) o
 obtain ⟨sv, ev, wv, rfl, h1, h2, rs, hm, hr, hn⟩ := hv
 have hl1 : m.sealed.length ≤ 4194304 := by unfold sizMend at hs; omega
 have hl2 : m.seen.length ≤ 4194304 := by unfold sizMend sizEntryS at hs; omega
 have hrl : rs.length = m.wrote.length := by rw [← hm, List.length_map]
 have hl3 : rs.length ≤ 4194304 := by rw [hrl]; unfold sizMend sizIntSS at hs; omega
 have HLL : Hid (∀ k (hk : k < rs.length), rs[k].m.length ≤ 4194304) := fun k hk => by
  have q := sumL_mem (ms := rs.map Nst.m) (k := k) (by simpa using hk)
  rw [List.getElem_map] at q
  have q2 : sumL (rs.map Nst.m) = sumL m.wrote := by rw [hm]
  unfold sizMend sizIntSS at hs
  omega
 have H1 := dH fun W (hb : Below w.heap.size w W) => h1.below hb
 have H2 := dH fun W (hb : Below w.heap.size w W) => Rw.below h2 hb
 have HR := dH fun W (hb : Below w.heap.size w W) => hr.below hb
 have HN : Hid (∀ W, Below w.heap.size w W → ∀ k (hk : k < rs.length), Ns W (.slice rs[k].a rs[k].m.length rs[k].c) rs[k].m) := fun W hb k hk => (hn _ (List.getElem_mem hk)).below hb
 have EX : Hid (∀ (W : World) (u1 u2 u3 : Value) (qs : List (Nst (List Int))) (B : Nat), qs.map Nst.m = rs.map Nst.m → OwnN W w.heap.size u1 m.sealed → CpE W w.heap.size u2 m.seen → LAp W B u3 qs → w.heap.size ≤ B → (m.sealed = [] ∨ m.seen = [] ∨ bO u1 ≠ bO u2) → (m.sealed = [] ∨ bO u1 < B) → (m.seen = [] ∨ bO u2 < B) → ∃ sv ev wv qs', Ending.returned (.agg #[.int .i64 m.bye, .int .i64 m.epoch, u1, u2, .bool m.planned, u3]) = .returned (.agg #[.int .i64 m.bye, .int .i64 m.epoch, sv, ev, .bool m.planned, wv]) ∧ qs'.map Nst.m = m.wrote ∧ MIn w.heap.size W.heap.size sv ev wv qs' m.sealed m.seen W) := fun W u1 u2 u3 qs B e p1 p2 p3 hB s1 s2 s3 => ⟨u1, u2, u3, qs, rfl, by rw [e, hm], MIn.of p1 p2 p3 hB s1 s2 s3⟩
 obtain ⟨-, sa, sc, rfl, -, -⟩ := h1
 obtain ⟨ea, ec, rfl, -⟩ := formEntryS h2
 obtain ⟨-, wa, wz, rfl, -, -⟩ := hr
 generalize m.bye = f0 at *
 generalize m.epoch = f1 at *
 generalize m.planned = f4 at *
 generalize m.sealed = ss at *
 generalize m.seen = es at *
 clear hn h2 hs hm hrl
 have X0 := (Bx.new w [.int .i64 f0, .int .i64 f1, .slice sa ss.length sc, .slice ea es.length ec, .bool f4, .slice wa rs.length wz] 30).below (ba _ (.cells #[.int .i64 0, .int .i64 0, .slice none 0 0, .slice none 0 0, .bool false, .slice none 0 0] 30))
 have Y0 := BxZ.new (B := w.heap.size) (w.alloc (.cells #[.int .i64 f0, .int .i64 f1, .slice sa ss.length sc, .slice ea es.length ec, .bool f4, .slice wa rs.length wz] 30)) [.int .i64 0, .int .i64 0, .slice none 0 0, .slice none 0 0, .bool false, .slice none 0 0] 30 (by simp)
 rw [show (w.alloc (.cells #[.int .i64 f0, .int .i64 f1, .slice sa ss.length sc, .slice ea es.length ec, .bool f4, .slice wa rs.length wz] 30)).heap.size = w.heap.size + 1 from by simp] at Y0
 have B0 := bT (ba w (.cells #[.int .i64 f0, .int .i64 f1, .slice sa ss.length sc, .slice ea es.length ec, .bool f4, .slice wa rs.length wz] 30)) (ba _ (.cells #[.int .i64 0, .int .i64 0, .slice none 0 0, .slice none 0 0, .bool false, .slice none 0 0] 30))
 go_enter Tryz.func33, Tryz.ntmps33
 go_wp2_with fail
 generalize (w.alloc (.cells #[.int .i64 f0, .int .i64 f1, .slice sa ss.length sc, .slice ea es.length ec, .bool f4, .slice wa rs.length wz] 30)).alloc (.cells #[.int .i64 0, .int .i64 0, .slice none 0 0, .slice none 0 0, .bool false, .slice none 0 0] 30) = w0 at *
 have HX := dH fun W (hb : Below w0.heap.size w0 W) => X0.below hb
 have HY := dH fun W (hb : Below w0.heap.size w0 W) => Y0.below hb
 have hy0 : w.heap.size + 1 < w0.heap.size := Y0.lt
 clear X0 Y0
 have bdr : Below w0.heap.size w0 w0.drew := (Below.refl _ _).drew
 have PP : Hid (∀ W, Below w0.heap.size w0 W → W.cell? ⟨w.heap.size, 0, none⟩ = some (.int .i64 f0) ∧ W.cell? ⟨w.heap.size, 1, none⟩ = some (.int .i64 f1) ∧ W.cell? ⟨w.heap.size, 2, none⟩ = some (.slice sa ss.length sc) ∧ W.cell? ⟨w.heap.size, 3, none⟩ = some (.slice ea es.length ec) ∧ W.cell? ⟨w.heap.size, 4, none⟩ = some (.bool f4)) := fun W hW => ⟨dU HX W hW 0 _ rfl, dU HX W hW 1 _ rfl, dU HX W hW 2 _ rfl, dU HX W hW 3 _ rfl, dU HX W hW 4 _ rfl⟩
 go_cut [3] (fun s wx => ∃ ob ua uc va vc, s = .pointer (some ⟨ob, 0, none⟩) ∧ BxZ wx w0.heap.size ob [.int .i64 f0, .int .i64 f1, .slice ua ss.length uc, .slice va es.length vc, .bool f4, .slice none 0 0] ∧ OwnN wx w0.heap.size (.slice ua ss.length uc) ss ∧ CpE wx w0.heap.size (.slice va es.length vc) es ∧ (ss = [] ∨ es = [] ∨ bO (.slice ua ss.length uc) ≠ bO (.slice va es.length vc)) ∧ (ss = [] ∨ bO (.slice ua ss.length uc) ≠ ob) ∧ (es = [] ∨ bO (.slice va es.length vc) ≠ ob) ∧ Below w0.heap.size w0 wx)
 case first =>
  refine wp_region_noPanic ?_
  refine wp_region_held_drew (S := fun W => W.cell? ⟨w.heap.size, 0, none⟩ = some (.int .i64 f0) ∧ W.cell? ⟨w.heap.size, 1, none⟩ = some (.int .i64 f1) ∧ W.cell? ⟨w.heap.size, 2, none⟩ = some (.slice sa ss.length sc) ∧ W.cell? ⟨w.heap.size, 3, none⟩ = some (.slice ea es.length ec) ∧ W.cell? ⟨w.heap.size, 4, none⟩ = some (.bool f4)) (by kernel_rfl) (by first | with_reducible exact dU PP _ hwd | exact dU PP _ (Below.refl _ _) | exact dU PP _ bdr | go_keep) (fun hHeld => ?_)
  have hwd : Below w0.heap.size w0 w0.drew := bdr
  generalize w0.drew = wd at *
  refine tY 0 (v := ?_) rfl (by kernel_rfl) (.inl ⟨by rfl, ?_⟩) ‹_› ?_
  rotate_left 1
  ·intro w hSw
   (try dsimp only at hSw)
   first | (go_simp; done) | (go_simp; with_reducible rfl)
  try simp only [Act.put, sA, sB, sC]
  refine tY 1 (v := ?_) rfl (by kernel_rfl) (.inl ⟨by rfl, ?_⟩) ‹_› ?_
  rotate_left 1
  ·intro w hSw
   (try dsimp only at hSw)
   first | (go_simp; done) | (go_simp; with_reducible rfl)
  try simp only [Act.put, sA, sB, sC]
  refine tY 2 (v := ?_) rfl (by kernel_rfl) (.inl ⟨by rfl, ?_⟩) ‹_› ?_
  rotate_left 1
  ·intro w hSw
   (try dsimp only at hSw)
   first | (go_simp; done) | (go_simp; with_reducible rfl)
  try simp only [Act.put, sA, sB, sC]
  refine tY 3 (v := ?_) rfl (by kernel_rfl) (.inl ⟨by rfl, ?_⟩) ‹_› ?_
  rotate_left 1
  ·intro w hSw
   (try dsimp only at hSw)
   first | (go_simp; done) | (go_simp; with_reducible rfl)
  try simp only [Act.put, sA, sB, sC]
  refine tY 5 (v := ?_) rfl (by kernel_rfl) (.inl ⟨by rfl, ?_⟩) ‹_› ?_
  rotate_left 1
  ·intro w hSw
   (try dsimp only at hSw)
   first | (go_simp; done) | (go_simp; with_reducible rfl)
  try simp only [Act.put, sA, sB, sC]
  refine tY 6 (v := ?_) rfl (by kernel_rfl) (.inl ⟨by rfl, ?_⟩) ‹_› ?_
  rotate_left 1
  ·intro w hSw
   (try dsimp only at hSw)
   first | (go_simp; done) | (go_simp; with_reducible rfl)
  try simp only [Act.put, sA, sB, sC]
  refine tY 9 (v := ?_) rfl (by kernel_rfl) (.inl ⟨by rfl, ?_⟩) ‹_› ?_
  rotate_left 1
  ·intro w hSw
   (try dsimp only at hSw)
   first | (go_simp; done) | (go_simp; with_reducible rfl)
  try simp only [Act.put, sA, sB, sC]
  refine tY 10 (v := ?_) rfl (by kernel_rfl) (.inl ⟨by rfl, ?_⟩) ‹_› ?_
  rotate_left 1
  ·intro w hSw
   (try dsimp only at hSw)
   first | (go_simp; done) | (go_simp; with_reducible rfl)
  try simp only [Act.put, sA, sB, sC]
  refine tY 12 (v := ?_) rfl (by kernel_rfl) (.inl ⟨by rfl, ?_⟩) ‹_› ?_
  rotate_left 1
  ·intro w hSw
   (try dsimp only at hSw)
   first | (go_simp; done) | (go_simp; with_reducible rfl)
  try simp only [Act.put, sA, sB, sC]
  refine tY 13 (v := ?_) rfl (by kernel_rfl) (.inl ⟨by rfl, ?_⟩) ‹_› ?_
  rotate_left 1
  ·intro w hSw
   (try dsimp only at hSw)
   first | (go_simp; done) | (go_simp; with_reducible rfl)
  try simp only [Act.put, sA, sB, sC]
  refine wpAnyH_ready (rs := [4, 8, 15]) (by kernel_rfl) (by simp) ?_
  refine rC rfl (fun K hK => ?_) (rC rfl (fun K hK => ?_) (rC rfl (fun K hK => ?_) AllReadyH.nil))
  ·go_simp
   try replace P1 := P1.below (ba wd (.cells #[] 3))
   try replace P2 := P2.below (ba wd (.cells #[] 3))
   try replace N3 := N3.below (ba wd (.cells #[] 3))
   replace hwd := bT hwd (ba wd (.cells #[] 3))
   generalize wd.heap.size = c1 at *
   generalize wd.alloc (.cells #[] 3) = wd at *
   refine hK.out _ _ (by first | with_reducible exact dU PP _ hwd | exact dU PP _ (Below.refl _ _) | exact dU PP _ bdr | go_keep) (fun hHeld => ?_)
   clear hK K
   try simp only [Act.put, sA, sB, sC]
   refine wpAnyH_ready (rs := [7, 8, 15]) (by kernel_rfl) (by simp) ?_
   refine rC rfl (fun K hK => ?_) (rC rfl (fun K hK => ?_) (rC rfl (fun K hK => ?_) AllReadyH.nil))
   ·obtain ⟨u1, w1, hrun, O1, b1⟩ := run_cpN (w := wd) 24 (some ⟨c1, 0, none⟩) (.slice sa ss.length sc) ss (dU H1 wd (bT B0 hwd)) (by omega)
    obtain ⟨-, ua, uc, rfl, -, -⟩ := O1.bs
    have hg1 := O1.ge
    try have S12 : (ss = [] ∨ es = [] ∨ bO (.slice ua ss.length uc) ≠ bO (.slice va es.length vc)) := sepA P2.lt hg1
    try have S13 : (ss = [] ∨ bO (.slice ua ss.length uc) ≠ ob) := sepC hg1 N3.lt
    try replace P2 := P2.below b1
    try replace N3 := N3.below b1
    have P1 := O1.mono hwd.size
    replace hwd := bT hwd b1
    clear O1 b1 hg1
    refine op_appR _ _ 24 24 rfl _ _ rfl rfl hrun ?_
    clear hrun
    generalize w1 = wd at *
    refine hK.out _ _ (by first | with_reducible exact dU PP _ hwd | exact dU PP _ (Below.refl _ _) | exact dU PP _ bdr | go_keep) (fun hHeld => ?_)
    clear hK K
    try simp only [Act.put, sA, sB, sC]
    refine wpAnyH_ready (rs := [8, 15]) (by kernel_rfl) (by simp) ?_
    refine rC rfl (fun K hK => ?_) (rC rfl (fun K hK => ?_) AllReadyH.nil)
    ·go_simp
     try replace P1 := P1.below (ba wd (.cells #[] 36))
     try replace P2 := P2.below (ba wd (.cells #[] 36))
     try replace N3 := N3.below (ba wd (.cells #[] 36))
     replace hwd := bT hwd (ba wd (.cells #[] 36))
     generalize wd.heap.size = c2 at *
     generalize wd.alloc (.cells #[] 36) = wd at *
     refine hK.out _ _ (by first | with_reducible exact dU PP _ hwd | exact dU PP _ (Below.refl _ _) | exact dU PP _ bdr | go_keep) (fun hHeld => ?_)
     clear hK K
     try simp only [Act.put, sA, sB, sC]
     refine wpAnyH_ready (rs := [11, 15]) (by kernel_rfl) (by simp) ?_
     refine rC rfl (fun K hK => ?_) (rC rfl (fun K hK => ?_) AllReadyH.nil)
     ·obtain ⟨u1, w1, hrun, O1, b1⟩ := run_cpE (w := wd) 27 (some ⟨c2, 0, none⟩) (dU H2 wd (bT B0 hwd)) (by omega)
      obtain ⟨va, vc, rfl⟩ := ApR.slice elemE O1.1
      have hg1 := O1.ge
      try have S12 : (ss = [] ∨ es = [] ∨ bO (.slice ua ss.length uc) ≠ bO (.slice va es.length vc)) := sepB P1.bs.lt hg1
      try have S23 : (es = [] ∨ bO (.slice va es.length vc) ≠ ob) := sepC hg1 N3.lt
      try replace P1 := P1.below b1
      try replace N3 := N3.below b1
      have P2 := O1.mono hwd.size
      replace hwd := bT hwd b1
      clear O1 b1 hg1
      refine op_appR _ _ 27 27 rfl _ _ rfl rfl hrun ?_
      clear hrun
      generalize w1 = wd at *
      refine hK.out _ _ (by first | with_reducible exact dU PP _ hwd | exact dU PP _ (Below.refl _ _) | exact dU PP _ bdr | go_keep) (fun hHeld => ?_)
      clear hK K
      try simp only [Act.put, sA, sB, sC]
      refine tY 14 (v := ?_) rfl (by kernel_rfl) (.inl ⟨by rfl, ?_⟩) ‹_› ?_
      rotate_left 1
      ·intro w hSw
       (try dsimp only at hSw)
       first | (go_simp; done) | (go_simp; with_reducible rfl)
      try simp only [Act.put, sA, sB, sC]
      refine wpAnyH_ready (rs := [15]) (by kernel_rfl) (by simp) ?_
      refine rC rfl (fun K hK => ?_) AllReadyH.nil
      go_simp
      have N3 := BxZ.new (B := w0.heap.size) wd [.int .i64 0, .int .i64 0, .slice none 0 0, .slice none 0 0, .bool false, .slice none 0 0] 30 hwd.size
      try have S13 : (ss = [] ∨ bO (.slice ua ss.length uc) ≠ wd.heap.size) := sepD P1.bs.lt
      try have S23 : (es = [] ∨ bO (.slice va es.length vc) ≠ wd.heap.size) := sepD P2.lt
      try replace P1 := P1.below (ba wd (.cells #[.int .i64 0, .int .i64 0, .slice none 0 0, .slice none 0 0, .bool false, .slice none 0 0] 30))
      try replace P2 := P2.below (ba wd (.cells #[.int .i64 0, .int .i64 0, .slice none 0 0, .slice none 0 0, .bool false, .slice none 0 0] 30))
      replace hwd := bT hwd (ba wd (.cells #[.int .i64 0, .int .i64 0, .slice none 0 0, .slice none 0 0, .bool false, .slice none 0 0] 30))
      generalize wd.heap.size = ob at *
      generalize wd.alloc (.cells #[.int .i64 0, .int .i64 0, .slice none 0 0, .slice none 0 0, .bool false, .slice none 0 0] 30) = wd at *
      refine hK.out _ _ (by first | with_reducible exact dU PP _ hwd | exact dU PP _ (Below.refl _ _) | exact dU PP _ bdr | go_keep) (fun hHeld => ?_)
      clear hK K
      try simp only [Act.put, sA, sB, sC]
      refine wpAnyH_ready (rs := [16]) (by kernel_rfl) (by simp) ?_
      refine rC rfl (fun K hK => ?_) AllReadyH.nil
      obtain ⟨z0, g0⟩ := N3.2 0 _ rfl
      obtain ⟨z1, g1⟩ := N3.2 1 _ rfl
      obtain ⟨z2, g2⟩ := N3.2 2 _ rfl
      obtain ⟨z3, g3⟩ := N3.2 3 _ rfl
      obtain ⟨z4, g4⟩ := N3.2 4 _ rfl
      obtain ⟨z5, g5⟩ := N3.2 5 _ rfl
      have hob : w0.heap.size ≤ ob := N3.1
      go_simp
      replace P1 := ((((((P1.put4 (b := ob) (o := 0) S13 (.int .i64 f0)).put4 (b := ob) (o := 1) S13 (.int .i64 f1)).put4 (b := ob) (o := 2) S13 (.slice ua ss.length uc)).put4 (b := ob) (o := 3) S13 (.slice va es.length vc)).put4 (b := ob) (o := 4) S13 (.bool f4)).put4 (b := ob) (o := 5) S13 (.slice none 0 0))
      replace P2 := ((((((P2.put4 (b := ob) (o := 0) S23 (.int .i64 f0)).put4 (b := ob) (o := 1) S23 (.int .i64 f1)).put4 (b := ob) (o := 2) S23 (.slice ua ss.length uc)).put4 (b := ob) (o := 3) S23 (.slice va es.length vc)).put4 (b := ob) (o := 4) S23 (.bool f4)).put4 (b := ob) (o := 5) S23 (.slice none 0 0))
      have N4 := ((((((N3.put 0 (.int .i64 f0)).put 1 (.int .i64 f1)).put 2 (.slice ua ss.length uc)).put 3 (.slice va es.length vc)).put 4 (.bool f4)).put 5 (.slice none 0 0))
      replace hwd := ((((((hwd.setCell (p := ⟨ob, 0, none⟩) hob (.int .i64 f0)).setCell (p := ⟨ob, 1, none⟩) hob (.int .i64 f1)).setCell (p := ⟨ob, 2, none⟩) hob (.slice ua ss.length uc)).setCell (p := ⟨ob, 3, none⟩) hob (.slice va es.length vc)).setCell (p := ⟨ob, 4, none⟩) hob (.bool f4)).setCell (p := ⟨ob, 5, none⟩) hob (.slice none 0 0))
      clear z0 g0 z1 g1 z2 g2 z3 g3 z4 g4 z5 g5 N3
      generalize ((((((wd.setCell ⟨ob, 0, none⟩ (.int .i64 f0)).setCell ⟨ob, 1, none⟩ (.int .i64 f1)).setCell ⟨ob, 2, none⟩ (.slice ua ss.length uc)).setCell ⟨ob, 3, none⟩ (.slice va es.length vc)).setCell ⟨ob, 4, none⟩ (.bool f4)).setCell ⟨ob, 5, none⟩ (.slice none 0 0)) = wd at *
      refine hK.out _ _ (by first | with_reducible exact dU PP _ hwd | exact dU PP _ (Below.refl _ _) | exact dU PP _ bdr | go_keep) (fun hHeld => ?_)
      clear hK K
      try simp only [Act.put, sA, sB, sC]
      refine wpAnyH_done (by kernel_rfl) ?_ _
      refine NoPanic.normal ?_
      go_wp2_with fail
      go_meet
      case rel => exact ⟨ob, ua, uc, va, vc, rfl, N4, P1, P2, S12, S13, S23, hwd⟩
     ·go_simp
      have N3 := BxZ.new (B := w0.heap.size) wd [.int .i64 0, .int .i64 0, .slice none 0 0, .slice none 0 0, .bool false, .slice none 0 0] 30 hwd.size
      try have S13 : (ss = [] ∨ bO (.slice ua ss.length uc) ≠ wd.heap.size) := sepD P1.bs.lt
      try have S23 : (es = [] ∨ bO (.slice va es.length vc) ≠ wd.heap.size) := sepD P2.lt
      try replace P1 := P1.below (ba wd (.cells #[.int .i64 0, .int .i64 0, .slice none 0 0, .slice none 0 0, .bool false, .slice none 0 0] 30))
      try replace P2 := P2.below (ba wd (.cells #[.int .i64 0, .int .i64 0, .slice none 0 0, .slice none 0 0, .bool false, .slice none 0 0] 30))
      replace hwd := bT hwd (ba wd (.cells #[.int .i64 0, .int .i64 0, .slice none 0 0, .slice none 0 0, .bool false, .slice none 0 0] 30))
      generalize wd.heap.size = ob at *
      generalize wd.alloc (.cells #[.int .i64 0, .int .i64 0, .slice none 0 0, .slice none 0 0, .bool false, .slice none 0 0] 30) = wd at *
      refine hK.out _ _ (by first | with_reducible exact dU PP _ hwd | exact dU PP _ (Below.refl _ _) | exact dU PP _ bdr | go_keep) (fun hHeld => ?_)
      clear hK K
      try simp only [Act.put, sA, sB, sC]
      refine wpAnyH_ready (rs := [11]) (by kernel_rfl) (by simp) ?_
      refine rC rfl (fun K hK => ?_) AllReadyH.nil
      obtain ⟨u1, w1, hrun, O1, b1⟩ := run_cpE (w := wd) 27 (some ⟨c2, 0, none⟩) (dU H2 wd (bT B0 hwd)) (by omega)
      obtain ⟨va, vc, rfl⟩ := ApR.slice elemE O1.1
      have hg1 := O1.ge
      try have S12 : (ss = [] ∨ es = [] ∨ bO (.slice ua ss.length uc) ≠ bO (.slice va es.length vc)) := sepB P1.bs.lt hg1
      try have S23 : (es = [] ∨ bO (.slice va es.length vc) ≠ ob) := sepC hg1 N3.lt
      try replace P1 := P1.below b1
      try replace N3 := N3.below b1
      have P2 := O1.mono hwd.size
      replace hwd := bT hwd b1
      clear O1 b1 hg1
      refine op_appR _ _ 27 27 rfl _ _ rfl rfl hrun ?_
      clear hrun
      generalize w1 = wd at *
      refine hK.out _ _ (by first | with_reducible exact dU PP _ hwd | exact dU PP _ (Below.refl _ _) | exact dU PP _ bdr | go_keep) (fun hHeld => ?_)
      clear hK K
      try simp only [Act.put, sA, sB, sC]
      refine tY 14 (v := ?_) rfl (by kernel_rfl) (.inl ⟨by rfl, ?_⟩) ‹_› ?_
      rotate_left 1
      ·intro w hSw
       (try dsimp only at hSw)
       first | (go_simp; done) | (go_simp; with_reducible rfl)
      try simp only [Act.put, sA, sB, sC]
      refine wpAnyH_ready (rs := [16]) (by kernel_rfl) (by simp) ?_
      refine rC rfl (fun K hK => ?_) AllReadyH.nil
      obtain ⟨z0, g0⟩ := N3.2 0 _ rfl
      obtain ⟨z1, g1⟩ := N3.2 1 _ rfl
      obtain ⟨z2, g2⟩ := N3.2 2 _ rfl
      obtain ⟨z3, g3⟩ := N3.2 3 _ rfl
      obtain ⟨z4, g4⟩ := N3.2 4 _ rfl
      obtain ⟨z5, g5⟩ := N3.2 5 _ rfl
      have hob : w0.heap.size ≤ ob := N3.1
      go_simp
      replace P1 := ((((((P1.put4 (b := ob) (o := 0) S13 (.int .i64 f0)).put4 (b := ob) (o := 1) S13 (.int .i64 f1)).put4 (b := ob) (o := 2) S13 (.slice ua ss.length uc)).put4 (b := ob) (o := 3) S13 (.slice va es.length vc)).put4 (b := ob) (o := 4) S13 (.bool f4)).put4 (b := ob) (o := 5) S13 (.slice none 0 0))
      replace P2 := ((((((P2.put4 (b := ob) (o := 0) S23 (.int .i64 f0)).put4 (b := ob) (o := 1) S23 (.int .i64 f1)).put4 (b := ob) (o := 2) S23 (.slice ua ss.length uc)).put4 (b := ob) (o := 3) S23 (.slice va es.length vc)).put4 (b := ob) (o := 4) S23 (.bool f4)).put4 (b := ob) (o := 5) S23 (.slice none 0 0))
      have N4 := ((((((N3.put 0 (.int .i64 f0)).put 1 (.int .i64 f1)).put 2 (.slice ua ss.length uc)).put 3 (.slice va es.length vc)).put 4 (.bool f4)).put 5 (.slice none 0 0))
      replace hwd := ((((((hwd.setCell (p := ⟨ob, 0, none⟩) hob (.int .i64 f0)).setCell (p := ⟨ob, 1, none⟩) hob (.int .i64 f1)).setCell (p := ⟨ob, 2, none⟩) hob (.slice ua ss.length uc)).setCell (p := ⟨ob, 3, none⟩) hob (.slice va es.length vc)).setCell (p := ⟨ob, 4, none⟩) hob (.bool f4)).setCell (p := ⟨ob, 5, none⟩) hob (.slice none 0 0))
      clear z0 g0 z1 g1 z2 g2 z3 g3 z4 g4 z5 g5 N3
      generalize ((((((wd.setCell ⟨ob, 0, none⟩ (.int .i64 f0)).setCell ⟨ob, 1, none⟩ (.int .i64 f1)).setCell ⟨ob, 2, none⟩ (.slice ua ss.length uc)).setCell ⟨ob, 3, none⟩ (.slice va es.length vc)).setCell ⟨ob, 4, none⟩ (.bool f4)).setCell ⟨ob, 5, none⟩ (.slice none 0 0)) = wd at *
      refine hK.out _ _ (by first | with_reducible exact dU PP _ hwd | exact dU PP _ (Below.refl _ _) | exact dU PP _ bdr | go_keep) (fun hHeld => ?_)
      clear hK K
      try simp only [Act.put, sA, sB, sC]
      refine wpAnyH_done (by kernel_rfl) ?_ _
      refine NoPanic.normal ?_
      go_wp2_with fail
      go_meet
      case rel => exact ⟨ob, ua, uc, va, vc, rfl, N4, P1, P2, S12, S13, S23, hwd⟩
    ·go_simp
     have N3 := BxZ.new (B := w0.heap.size) wd [.int .i64 0, .int .i64 0, .slice none 0 0, .slice none 0 0, .bool false, .slice none 0 0] 30 hwd.size
     try have S13 : (ss = [] ∨ bO (.slice ua ss.length uc) ≠ wd.heap.size) := sepD P1.bs.lt
     try have S23 : (es = [] ∨ bO (.slice va es.length vc) ≠ wd.heap.size) := sepD P2.lt
     try replace P1 := P1.below (ba wd (.cells #[.int .i64 0, .int .i64 0, .slice none 0 0, .slice none 0 0, .bool false, .slice none 0 0] 30))
     try replace P2 := P2.below (ba wd (.cells #[.int .i64 0, .int .i64 0, .slice none 0 0, .slice none 0 0, .bool false, .slice none 0 0] 30))
     replace hwd := bT hwd (ba wd (.cells #[.int .i64 0, .int .i64 0, .slice none 0 0, .slice none 0 0, .bool false, .slice none 0 0] 30))
     generalize wd.heap.size = ob at *
     generalize wd.alloc (.cells #[.int .i64 0, .int .i64 0, .slice none 0 0, .slice none 0 0, .bool false, .slice none 0 0] 30) = wd at *
     refine hK.out _ _ (by first | with_reducible exact dU PP _ hwd | exact dU PP _ (Below.refl _ _) | exact dU PP _ bdr | go_keep) (fun hHeld => ?_)
     clear hK K
     try simp only [Act.put, sA, sB, sC]
     refine wpAnyH_ready (rs := [8]) (by kernel_rfl) (by simp) ?_
     refine rC rfl (fun K hK => ?_) AllReadyH.nil
     go_simp
     try replace P1 := P1.below (ba wd (.cells #[] 36))
     try replace P2 := P2.below (ba wd (.cells #[] 36))
     try replace N3 := N3.below (ba wd (.cells #[] 36))
     replace hwd := bT hwd (ba wd (.cells #[] 36))
     generalize wd.heap.size = c2 at *
     generalize wd.alloc (.cells #[] 36) = wd at *
     refine hK.out _ _ (by first | with_reducible exact dU PP _ hwd | exact dU PP _ (Below.refl _ _) | exact dU PP _ bdr | go_keep) (fun hHeld => ?_)
     clear hK K
     try simp only [Act.put, sA, sB, sC]
     refine wpAnyH_ready (rs := [11]) (by kernel_rfl) (by simp) ?_
     refine rC rfl (fun K hK => ?_) AllReadyH.nil
     obtain ⟨u1, w1, hrun, O1, b1⟩ := run_cpE (w := wd) 27 (some ⟨c2, 0, none⟩) (dU H2 wd (bT B0 hwd)) (by omega)
     obtain ⟨va, vc, rfl⟩ := ApR.slice elemE O1.1
     have hg1 := O1.ge
     try have S12 : (ss = [] ∨ es = [] ∨ bO (.slice ua ss.length uc) ≠ bO (.slice va es.length vc)) := sepB P1.bs.lt hg1
     try have S23 : (es = [] ∨ bO (.slice va es.length vc) ≠ ob) := sepC hg1 N3.lt
     try replace P1 := P1.below b1
     try replace N3 := N3.below b1
     have P2 := O1.mono hwd.size
     replace hwd := bT hwd b1
     clear O1 b1 hg1
     refine op_appR _ _ 27 27 rfl _ _ rfl rfl hrun ?_
     clear hrun
     generalize w1 = wd at *
     refine hK.out _ _ (by first | with_reducible exact dU PP _ hwd | exact dU PP _ (Below.refl _ _) | exact dU PP _ bdr | go_keep) (fun hHeld => ?_)
     clear hK K
     try simp only [Act.put, sA, sB, sC]
     refine tY 14 (v := ?_) rfl (by kernel_rfl) (.inl ⟨by rfl, ?_⟩) ‹_› ?_
     rotate_left 1
     ·intro w hSw
      (try dsimp only at hSw)
      first | (go_simp; done) | (go_simp; with_reducible rfl)
     try simp only [Act.put, sA, sB, sC]
     refine wpAnyH_ready (rs := [16]) (by kernel_rfl) (by simp) ?_
     refine rC rfl (fun K hK => ?_) AllReadyH.nil
     obtain ⟨z0, g0⟩ := N3.2 0 _ rfl
     obtain ⟨z1, g1⟩ := N3.2 1 _ rfl
     obtain ⟨z2, g2⟩ := N3.2 2 _ rfl
     obtain ⟨z3, g3⟩ := N3.2 3 _ rfl
     obtain ⟨z4, g4⟩ := N3.2 4 _ rfl
     obtain ⟨z5, g5⟩ := N3.2 5 _ rfl
     have hob : w0.heap.size ≤ ob := N3.1
     go_simp
     replace P1 := ((((((P1.put4 (b := ob) (o := 0) S13 (.int .i64 f0)).put4 (b := ob) (o := 1) S13 (.int .i64 f1)).put4 (b := ob) (o := 2) S13 (.slice ua ss.length uc)).put4 (b := ob) (o := 3) S13 (.slice va es.length vc)).put4 (b := ob) (o := 4) S13 (.bool f4)).put4 (b := ob) (o := 5) S13 (.slice none 0 0))
     replace P2 := ((((((P2.put4 (b := ob) (o := 0) S23 (.int .i64 f0)).put4 (b := ob) (o := 1) S23 (.int .i64 f1)).put4 (b := ob) (o := 2) S23 (.slice ua ss.length uc)).put4 (b := ob) (o := 3) S23 (.slice va es.length vc)).put4 (b := ob) (o := 4) S23 (.bool f4)).put4 (b := ob) (o := 5) S23 (.slice none 0 0))
     have N4 := ((((((N3.put 0 (.int .i64 f0)).put 1 (.int .i64 f1)).put 2 (.slice ua ss.length uc)).put 3 (.slice va es.length vc)).put 4 (.bool f4)).put 5 (.slice none 0 0))
     replace hwd := ((((((hwd.setCell (p := ⟨ob, 0, none⟩) hob (.int .i64 f0)).setCell (p := ⟨ob, 1, none⟩) hob (.int .i64 f1)).setCell (p := ⟨ob, 2, none⟩) hob (.slice ua ss.length uc)).setCell (p := ⟨ob, 3, none⟩) hob (.slice va es.length vc)).setCell (p := ⟨ob, 4, none⟩) hob (.bool f4)).setCell (p := ⟨ob, 5, none⟩) hob (.slice none 0 0))
     clear z0 g0 z1 g1 z2 g2 z3 g3 z4 g4 z5 g5 N3
     generalize ((((((wd.setCell ⟨ob, 0, none⟩ (.int .i64 f0)).setCell ⟨ob, 1, none⟩ (.int .i64 f1)).setCell ⟨ob, 2, none⟩ (.slice ua ss.length uc)).setCell ⟨ob, 3, none⟩ (.slice va es.length vc)).setCell ⟨ob, 4, none⟩ (.bool f4)).setCell ⟨ob, 5, none⟩ (.slice none 0 0)) = wd at *
     refine hK.out _ _ (by first | with_reducible exact dU PP _ hwd | exact dU PP _ (Below.refl _ _) | exact dU PP _ bdr | go_keep) (fun hHeld => ?_)
     clear hK K
     try simp only [Act.put, sA, sB, sC]
     refine wpAnyH_done (by kernel_rfl) ?_ _
     refine NoPanic.normal ?_
     go_wp2_with fail
     go_meet
     case rel => exact ⟨ob, ua, uc, va, vc, rfl, N4, P1, P2, S12, S13, S23, hwd⟩
   ·go_simp
    try replace P1 := P1.below (ba wd (.cells #[] 36))
    try replace P2 := P2.below (ba wd (.cells #[] 36))
    try replace N3 := N3.below (ba wd (.cells #[] 36))
    replace hwd := bT hwd (ba wd (.cells #[] 36))
    generalize wd.heap.size = c2 at *
    generalize wd.alloc (.cells #[] 36) = wd at *
    refine hK.out _ _ (by first | with_reducible exact dU PP _ hwd | exact dU PP _ (Below.refl _ _) | exact dU PP _ bdr | go_keep) (fun hHeld => ?_)
    clear hK K
    try simp only [Act.put, sA, sB, sC]
    refine wpAnyH_ready (rs := [7, 15]) (by kernel_rfl) (by simp) ?_
    refine rC rfl (fun K hK => ?_) (rC rfl (fun K hK => ?_) AllReadyH.nil)
    ·obtain ⟨u1, w1, hrun, O1, b1⟩ := run_cpN (w := wd) 24 (some ⟨c1, 0, none⟩) (.slice sa ss.length sc) ss (dU H1 wd (bT B0 hwd)) (by omega)
     obtain ⟨-, ua, uc, rfl, -, -⟩ := O1.bs
     have hg1 := O1.ge
     try have S12 : (ss = [] ∨ es = [] ∨ bO (.slice ua ss.length uc) ≠ bO (.slice va es.length vc)) := sepA P2.lt hg1
     try have S13 : (ss = [] ∨ bO (.slice ua ss.length uc) ≠ ob) := sepC hg1 N3.lt
     try replace P2 := P2.below b1
     try replace N3 := N3.below b1
     have P1 := O1.mono hwd.size
     replace hwd := bT hwd b1
     clear O1 b1 hg1
     refine op_appR _ _ 24 24 rfl _ _ rfl rfl hrun ?_
     clear hrun
     generalize w1 = wd at *
     refine hK.out _ _ (by first | with_reducible exact dU PP _ hwd | exact dU PP _ (Below.refl _ _) | exact dU PP _ bdr | go_keep) (fun hHeld => ?_)
     clear hK K
     try simp only [Act.put, sA, sB, sC]
     refine wpAnyH_ready (rs := [11, 15]) (by kernel_rfl) (by simp) ?_
     refine rC rfl (fun K hK => ?_) (rC rfl (fun K hK => ?_) AllReadyH.nil)
     ·obtain ⟨u1, w1, hrun, O1, b1⟩ := run_cpE (w := wd) 27 (some ⟨c2, 0, none⟩) (dU H2 wd (bT B0 hwd)) (by omega)
      obtain ⟨va, vc, rfl⟩ := ApR.slice elemE O1.1
      have hg1 := O1.ge
      try have S12 : (ss = [] ∨ es = [] ∨ bO (.slice ua ss.length uc) ≠ bO (.slice va es.length vc)) := sepB P1.bs.lt hg1
      try have S23 : (es = [] ∨ bO (.slice va es.length vc) ≠ ob) := sepC hg1 N3.lt
      try replace P1 := P1.below b1
      try replace N3 := N3.below b1
      have P2 := O1.mono hwd.size
      replace hwd := bT hwd b1
      clear O1 b1 hg1
      refine op_appR _ _ 27 27 rfl _ _ rfl rfl hrun ?_
      clear hrun
      generalize w1 = wd at *
      refine hK.out _ _ (by first | with_reducible exact dU PP _ hwd | exact dU PP _ (Below.refl _ _) | exact dU PP _ bdr | go_keep) (fun hHeld => ?_)
      clear hK K
      try simp only [Act.put, sA, sB, sC]
      refine tY 14 (v := ?_) rfl (by kernel_rfl) (.inl ⟨by rfl, ?_⟩) ‹_› ?_
      rotate_left 1
      ·intro w hSw
       (try dsimp only at hSw)
       first | (go_simp; done) | (go_simp; with_reducible rfl)
      try simp only [Act.put, sA, sB, sC]
      refine wpAnyH_ready (rs := [15]) (by kernel_rfl) (by simp) ?_
      refine rC rfl (fun K hK => ?_) AllReadyH.nil
      go_simp
      have N3 := BxZ.new (B := w0.heap.size) wd [.int .i64 0, .int .i64 0, .slice none 0 0, .slice none 0 0, .bool false, .slice none 0 0] 30 hwd.size
      try have S13 : (ss = [] ∨ bO (.slice ua ss.length uc) ≠ wd.heap.size) := sepD P1.bs.lt
      try have S23 : (es = [] ∨ bO (.slice va es.length vc) ≠ wd.heap.size) := sepD P2.lt
      try replace P1 := P1.below (ba wd (.cells #[.int .i64 0, .int .i64 0, .slice none 0 0, .slice none 0 0, .bool false, .slice none 0 0] 30))
      try replace P2 := P2.below (ba wd (.cells #[.int .i64 0, .int .i64 0, .slice none 0 0, .slice none 0 0, .bool false, .slice none 0 0] 30))
      replace hwd := bT hwd (ba wd (.cells #[.int .i64 0, .int .i64 0, .slice none 0 0, .slice none 0 0, .bool false, .slice none 0 0] 30))
      generalize wd.heap.size = ob at *
      generalize wd.alloc (.cells #[.int .i64 0, .int .i64 0, .slice none 0 0, .slice none 0 0, .bool false, .slice none 0 0] 30) = wd at *
      refine hK.out _ _ (by first | with_reducible exact dU PP _ hwd | exact dU PP _ (Below.refl _ _) | exact dU PP _ bdr | go_keep) (fun hHeld => ?_)
      clear hK K
      try simp only [Act.put, sA, sB, sC]
      refine wpAnyH_ready (rs := [16]) (by kernel_rfl) (by simp) ?_
      refine rC rfl (fun K hK => ?_) AllReadyH.nil
      obtain ⟨z0, g0⟩ := N3.2 0 _ rfl
      obtain ⟨z1, g1⟩ := N3.2 1 _ rfl
      obtain ⟨z2, g2⟩ := N3.2 2 _ rfl
      obtain ⟨z3, g3⟩ := N3.2 3 _ rfl
      obtain ⟨z4, g4⟩ := N3.2 4 _ rfl
      obtain ⟨z5, g5⟩ := N3.2 5 _ rfl
      have hob : w0.heap.size ≤ ob := N3.1
      go_simp
      replace P1 := ((((((P1.put4 (b := ob) (o := 0) S13 (.int .i64 f0)).put4 (b := ob) (o := 1) S13 (.int .i64 f1)).put4 (b := ob) (o := 2) S13 (.slice ua ss.length uc)).put4 (b := ob) (o := 3) S13 (.slice va es.length vc)).put4 (b := ob) (o := 4) S13 (.bool f4)).put4 (b := ob) (o := 5) S13 (.slice none 0 0))
      replace P2 := ((((((P2.put4 (b := ob) (o := 0) S23 (.int .i64 f0)).put4 (b := ob) (o := 1) S23 (.int .i64 f1)).put4 (b := ob) (o := 2) S23 (.slice ua ss.length uc)).put4 (b := ob) (o := 3) S23 (.slice va es.length vc)).put4 (b := ob) (o := 4) S23 (.bool f4)).put4 (b := ob) (o := 5) S23 (.slice none 0 0))
      have N4 := ((((((N3.put 0 (.int .i64 f0)).put 1 (.int .i64 f1)).put 2 (.slice ua ss.length uc)).put 3 (.slice va es.length vc)).put 4 (.bool f4)).put 5 (.slice none 0 0))
      replace hwd := ((((((hwd.setCell (p := ⟨ob, 0, none⟩) hob (.int .i64 f0)).setCell (p := ⟨ob, 1, none⟩) hob (.int .i64 f1)).setCell (p := ⟨ob, 2, none⟩) hob (.slice ua ss.length uc)).setCell (p := ⟨ob, 3, none⟩) hob (.slice va es.length vc)).setCell (p := ⟨ob, 4, none⟩) hob (.bool f4)).setCell (p := ⟨ob, 5, none⟩) hob (.slice none 0 0))
      clear z0 g0 z1 g1 z2 g2 z3 g3 z4 g4 z5 g5 N3
      generalize ((((((wd.setCell ⟨ob, 0, none⟩ (.int .i64 f0)).setCell ⟨ob, 1, none⟩ (.int .i64 f1)).setCell ⟨ob, 2, none⟩ (.slice ua ss.length uc)).setCell ⟨ob, 3, none⟩ (.slice va es.length vc)).setCell ⟨ob, 4, none⟩ (.bool f4)).setCell ⟨ob, 5, none⟩ (.slice none 0 0)) = wd at *
      refine hK.out _ _ (by first | with_reducible exact dU PP _ hwd | exact dU PP _ (Below.refl _ _) | exact dU PP _ bdr | go_keep) (fun hHeld => ?_)
      clear hK K
      try simp only [Act.put, sA, sB, sC]
      refine wpAnyH_done (by kernel_rfl) ?_ _
      refine NoPanic.normal ?_
      go_wp2_with fail
      go_meet
      case rel => exact ⟨ob, ua, uc, va, vc, rfl, N4, P1, P2, S12, S13, S23, hwd⟩
     ·go_simp
      have N3 := BxZ.new (B := w0.heap.size) wd [.int .i64 0, .int .i64 0, .slice none 0 0, .slice none 0 0, .bool false, .slice none 0 0] 30 hwd.size
      try have S13 : (ss = [] ∨ bO (.slice ua ss.length uc) ≠ wd.heap.size) := sepD P1.bs.lt
      try have S23 : (es = [] ∨ bO (.slice va es.length vc) ≠ wd.heap.size) := sepD P2.lt
      try replace P1 := P1.below (ba wd (.cells #[.int .i64 0, .int .i64 0, .slice none 0 0, .slice none 0 0, .bool false, .slice none 0 0] 30))
      try replace P2 := P2.below (ba wd (.cells #[.int .i64 0, .int .i64 0, .slice none 0 0, .slice none 0 0, .bool false, .slice none 0 0] 30))
      replace hwd := bT hwd (ba wd (.cells #[.int .i64 0, .int .i64 0, .slice none 0 0, .slice none 0 0, .bool false, .slice none 0 0] 30))
      generalize wd.heap.size = ob at *
      generalize wd.alloc (.cells #[.int .i64 0, .int .i64 0, .slice none 0 0, .slice none 0 0, .bool false, .slice none 0 0] 30) = wd at *
      refine hK.out _ _ (by first | with_reducible exact dU PP _ hwd | exact dU PP _ (Below.refl _ _) | exact dU PP _ bdr | go_keep) (fun hHeld => ?_)
      clear hK K
      try simp only [Act.put, sA, sB, sC]
      refine wpAnyH_ready (rs := [11]) (by kernel_rfl) (by simp) ?_
      refine rC rfl (fun K hK => ?_) AllReadyH.nil
      obtain ⟨u1, w1, hrun, O1, b1⟩ := run_cpE (w := wd) 27 (some ⟨c2, 0, none⟩) (dU H2 wd (bT B0 hwd)) (by omega)
      obtain ⟨va, vc, rfl⟩ := ApR.slice elemE O1.1
      have hg1 := O1.ge
      try have S12 : (ss = [] ∨ es = [] ∨ bO (.slice ua ss.length uc) ≠ bO (.slice va es.length vc)) := sepB P1.bs.lt hg1
      try have S23 : (es = [] ∨ bO (.slice va es.length vc) ≠ ob) := sepC hg1 N3.lt
      try replace P1 := P1.below b1
      try replace N3 := N3.below b1
      have P2 := O1.mono hwd.size
      replace hwd := bT hwd b1
      clear O1 b1 hg1
      refine op_appR _ _ 27 27 rfl _ _ rfl rfl hrun ?_
      clear hrun
      generalize w1 = wd at *
      refine hK.out _ _ (by first | with_reducible exact dU PP _ hwd | exact dU PP _ (Below.refl _ _) | exact dU PP _ bdr | go_keep) (fun hHeld => ?_)
      clear hK K
      try simp only [Act.put, sA, sB, sC]
      refine tY 14 (v := ?_) rfl (by kernel_rfl) (.inl ⟨by rfl, ?_⟩) ‹_› ?_
      rotate_left 1
      ·intro w hSw
       (try dsimp only at hSw)
       first | (go_simp; done) | (go_simp; with_reducible rfl)
      try simp only [Act.put, sA, sB, sC]
      refine wpAnyH_ready (rs := [16]) (by kernel_rfl) (by simp) ?_
      refine rC rfl (fun K hK => ?_) AllReadyH.nil
      obtain ⟨z0, g0⟩ := N3.2 0 _ rfl
      obtain ⟨z1, g1⟩ := N3.2 1 _ rfl
      obtain ⟨z2, g2⟩ := N3.2 2 _ rfl
      obtain ⟨z3, g3⟩ := N3.2 3 _ rfl
      obtain ⟨z4, g4⟩ := N3.2 4 _ rfl
      obtain ⟨z5, g5⟩ := N3.2 5 _ rfl
      have hob : w0.heap.size ≤ ob := N3.1
      go_simp
      replace P1 := ((((((P1.put4 (b := ob) (o := 0) S13 (.int .i64 f0)).put4 (b := ob) (o := 1) S13 (.int .i64 f1)).put4 (b := ob) (o := 2) S13 (.slice ua ss.length uc)).put4 (b := ob) (o := 3) S13 (.slice va es.length vc)).put4 (b := ob) (o := 4) S13 (.bool f4)).put4 (b := ob) (o := 5) S13 (.slice none 0 0))
      replace P2 := ((((((P2.put4 (b := ob) (o := 0) S23 (.int .i64 f0)).put4 (b := ob) (o := 1) S23 (.int .i64 f1)).put4 (b := ob) (o := 2) S23 (.slice ua ss.length uc)).put4 (b := ob) (o := 3) S23 (.slice va es.length vc)).put4 (b := ob) (o := 4) S23 (.bool f4)).put4 (b := ob) (o := 5) S23 (.slice none 0 0))
      have N4 := ((((((N3.put 0 (.int .i64 f0)).put 1 (.int .i64 f1)).put 2 (.slice ua ss.length uc)).put 3 (.slice va es.length vc)).put 4 (.bool f4)).put 5 (.slice none 0 0))
      replace hwd := ((((((hwd.setCell (p := ⟨ob, 0, none⟩) hob (.int .i64 f0)).setCell (p := ⟨ob, 1, none⟩) hob (.int .i64 f1)).setCell (p := ⟨ob, 2, none⟩) hob (.slice ua ss.length uc)).setCell (p := ⟨ob, 3, none⟩) hob (.slice va es.length vc)).setCell (p := ⟨ob, 4, none⟩) hob (.bool f4)).setCell (p := ⟨ob, 5, none⟩) hob (.slice none 0 0))
      clear z0 g0 z1 g1 z2 g2 z3 g3 z4 g4 z5 g5 N3
      generalize ((((((wd.setCell ⟨ob, 0, none⟩ (.int .i64 f0)).setCell ⟨ob, 1, none⟩ (.int .i64 f1)).setCell ⟨ob, 2, none⟩ (.slice ua ss.length uc)).setCell ⟨ob, 3, none⟩ (.slice va es.length vc)).setCell ⟨ob, 4, none⟩ (.bool f4)).setCell ⟨ob, 5, none⟩ (.slice none 0 0)) = wd at *
      refine hK.out _ _ (by first | with_reducible exact dU PP _ hwd | exact dU PP _ (Below.refl _ _) | exact dU PP _ bdr | go_keep) (fun hHeld => ?_)
      clear hK K
      try simp only [Act.put, sA, sB, sC]
      refine wpAnyH_done (by kernel_rfl) ?_ _
      refine NoPanic.normal ?_
      go_wp2_with fail
      go_meet
      case rel => exact ⟨ob, ua, uc, va, vc, rfl, N4, P1, P2, S12, S13, S23, hwd⟩
    ·go_simp
     have N3 := BxZ.new (B := w0.heap.size) wd [.int .i64 0, .int .i64 0, .slice none 0 0, .slice none 0 0, .bool false, .slice none 0 0] 30 hwd.size
     try have S13 : (ss = [] ∨ bO (.slice ua ss.length uc) ≠ wd.heap.size) := sepD P1.bs.lt
     try have S23 : (es = [] ∨ bO (.slice va es.length vc) ≠ wd.heap.size) := sepD P2.lt
     try replace P1 := P1.below (ba wd (.cells #[.int .i64 0, .int .i64 0, .slice none 0 0, .slice none 0 0, .bool false, .slice none 0 0] 30))
     try replace P2 := P2.below (ba wd (.cells #[.int .i64 0, .int .i64 0, .slice none 0 0, .slice none 0 0, .bool false, .slice none 0 0] 30))
     replace hwd := bT hwd (ba wd (.cells #[.int .i64 0, .int .i64 0, .slice none 0 0, .slice none 0 0, .bool false, .slice none 0 0] 30))
     generalize wd.heap.size = ob at *
     generalize wd.alloc (.cells #[.int .i64 0, .int .i64 0, .slice none 0 0, .slice none 0 0, .bool false, .slice none 0 0] 30) = wd at *
     refine hK.out _ _ (by first | with_reducible exact dU PP _ hwd | exact dU PP _ (Below.refl _ _) | exact dU PP _ bdr | go_keep) (fun hHeld => ?_)
     clear hK K
     try simp only [Act.put, sA, sB, sC]
     refine wpAnyH_ready (rs := [7]) (by kernel_rfl) (by simp) ?_
     refine rC rfl (fun K hK => ?_) AllReadyH.nil
     obtain ⟨u1, w1, hrun, O1, b1⟩ := run_cpN (w := wd) 24 (some ⟨c1, 0, none⟩) (.slice sa ss.length sc) ss (dU H1 wd (bT B0 hwd)) (by omega)
     obtain ⟨-, ua, uc, rfl, -, -⟩ := O1.bs
     have hg1 := O1.ge
     try have S12 : (ss = [] ∨ es = [] ∨ bO (.slice ua ss.length uc) ≠ bO (.slice va es.length vc)) := sepA P2.lt hg1
     try have S13 : (ss = [] ∨ bO (.slice ua ss.length uc) ≠ ob) := sepC hg1 N3.lt
     try replace P2 := P2.below b1
     try replace N3 := N3.below b1
     have P1 := O1.mono hwd.size
     replace hwd := bT hwd b1
     clear O1 b1 hg1
     refine op_appR _ _ 24 24 rfl _ _ rfl rfl hrun ?_
     clear hrun
     generalize w1 = wd at *
     refine hK.out _ _ (by first | with_reducible exact dU PP _ hwd | exact dU PP _ (Below.refl _ _) | exact dU PP _ bdr | go_keep) (fun hHeld => ?_)
     clear hK K
     try simp only [Act.put, sA, sB, sC]
     refine wpAnyH_ready (rs := [11]) (by kernel_rfl) (by simp) ?_
     refine rC rfl (fun K hK => ?_) AllReadyH.nil
     obtain ⟨u1, w1, hrun, O1, b1⟩ := run_cpE (w := wd) 27 (some ⟨c2, 0, none⟩) (dU H2 wd (bT B0 hwd)) (by omega)
     obtain ⟨va, vc, rfl⟩ := ApR.slice elemE O1.1
     have hg1 := O1.ge
     try have S12 : (ss = [] ∨ es = [] ∨ bO (.slice ua ss.length uc) ≠ bO (.slice va es.length vc)) := sepB P1.bs.lt hg1
     try have S23 : (es = [] ∨ bO (.slice va es.length vc) ≠ ob) := sepC hg1 N3.lt
     try replace P1 := P1.below b1
     try replace N3 := N3.below b1
     have P2 := O1.mono hwd.size
     replace hwd := bT hwd b1
     clear O1 b1 hg1
     refine op_appR _ _ 27 27 rfl _ _ rfl rfl hrun ?_
     clear hrun
     generalize w1 = wd at *
     refine hK.out _ _ (by first | with_reducible exact dU PP _ hwd | exact dU PP _ (Below.refl _ _) | exact dU PP _ bdr | go_keep) (fun hHeld => ?_)
     clear hK K
     try simp only [Act.put, sA, sB, sC]
     refine tY 14 (v := ?_) rfl (by kernel_rfl) (.inl ⟨by rfl, ?_⟩) ‹_› ?_
     rotate_left 1
     ·intro w hSw
      (try dsimp only at hSw)
      first | (go_simp; done) | (go_simp; with_reducible rfl)
     try simp only [Act.put, sA, sB, sC]
     refine wpAnyH_ready (rs := [16]) (by kernel_rfl) (by simp) ?_
     refine rC rfl (fun K hK => ?_) AllReadyH.nil
     obtain ⟨z0, g0⟩ := N3.2 0 _ rfl
     obtain ⟨z1, g1⟩ := N3.2 1 _ rfl
     obtain ⟨z2, g2⟩ := N3.2 2 _ rfl
     obtain ⟨z3, g3⟩ := N3.2 3 _ rfl
     obtain ⟨z4, g4⟩ := N3.2 4 _ rfl
     obtain ⟨z5, g5⟩ := N3.2 5 _ rfl
     have hob : w0.heap.size ≤ ob := N3.1
     go_simp
     replace P1 := ((((((P1.put4 (b := ob) (o := 0) S13 (.int .i64 f0)).put4 (b := ob) (o := 1) S13 (.int .i64 f1)).put4 (b := ob) (o := 2) S13 (.slice ua ss.length uc)).put4 (b := ob) (o := 3) S13 (.slice va es.length vc)).put4 (b := ob) (o := 4) S13 (.bool f4)).put4 (b := ob) (o := 5) S13 (.slice none 0 0))
     replace P2 := ((((((P2.put4 (b := ob) (o := 0) S23 (.int .i64 f0)).put4 (b := ob) (o := 1) S23 (.int .i64 f1)).put4 (b := ob) (o := 2) S23 (.slice ua ss.length uc)).put4 (b := ob) (o := 3) S23 (.slice va es.length vc)).put4 (b := ob) (o := 4) S23 (.bool f4)).put4 (b := ob) (o := 5) S23 (.slice none 0 0))
     have N4 := ((((((N3.put 0 (.int .i64 f0)).put 1 (.int .i64 f1)).put 2 (.slice ua ss.length uc)).put 3 (.slice va es.length vc)).put 4 (.bool f4)).put 5 (.slice none 0 0))
     replace hwd := ((((((hwd.setCell (p := ⟨ob, 0, none⟩) hob (.int .i64 f0)).setCell (p := ⟨ob, 1, none⟩) hob (.int .i64 f1)).setCell (p := ⟨ob, 2, none⟩) hob (.slice ua ss.length uc)).setCell (p := ⟨ob, 3, none⟩) hob (.slice va es.length vc)).setCell (p := ⟨ob, 4, none⟩) hob (.bool f4)).setCell (p := ⟨ob, 5, none⟩) hob (.slice none 0 0))
     clear z0 g0 z1 g1 z2 g2 z3 g3 z4 g4 z5 g5 N3
     generalize ((((((wd.setCell ⟨ob, 0, none⟩ (.int .i64 f0)).setCell ⟨ob, 1, none⟩ (.int .i64 f1)).setCell ⟨ob, 2, none⟩ (.slice ua ss.length uc)).setCell ⟨ob, 3, none⟩ (.slice va es.length vc)).setCell ⟨ob, 4, none⟩ (.bool f4)).setCell ⟨ob, 5, none⟩ (.slice none 0 0)) = wd at *
     refine hK.out _ _ (by first | with_reducible exact dU PP _ hwd | exact dU PP _ (Below.refl _ _) | exact dU PP _ bdr | go_keep) (fun hHeld => ?_)
     clear hK K
     try simp only [Act.put, sA, sB, sC]
     refine wpAnyH_done (by kernel_rfl) ?_ _
     refine NoPanic.normal ?_
     go_wp2_with fail
     go_meet
     case rel => exact ⟨ob, ua, uc, va, vc, rfl, N4, P1, P2, S12, S13, S23, hwd⟩
   ·go_simp
    have N3 := BxZ.new (B := w0.heap.size) wd [.int .i64 0, .int .i64 0, .slice none 0 0, .slice none 0 0, .bool false, .slice none 0 0] 30 hwd.size
    try have S13 : (ss = [] ∨ bO (.slice ua ss.length uc) ≠ wd.heap.size) := sepD P1.bs.lt
    try have S23 : (es = [] ∨ bO (.slice va es.length vc) ≠ wd.heap.size) := sepD P2.lt
    try replace P1 := P1.below (ba wd (.cells #[.int .i64 0, .int .i64 0, .slice none 0 0, .slice none 0 0, .bool false, .slice none 0 0] 30))
    try replace P2 := P2.below (ba wd (.cells #[.int .i64 0, .int .i64 0, .slice none 0 0, .slice none 0 0, .bool false, .slice none 0 0] 30))
    replace hwd := bT hwd (ba wd (.cells #[.int .i64 0, .int .i64 0, .slice none 0 0, .slice none 0 0, .bool false, .slice none 0 0] 30))
    generalize wd.heap.size = ob at *
    generalize wd.alloc (.cells #[.int .i64 0, .int .i64 0, .slice none 0 0, .slice none 0 0, .bool false, .slice none 0 0] 30) = wd at *
    refine hK.out _ _ (by first | with_reducible exact dU PP _ hwd | exact dU PP _ (Below.refl _ _) | exact dU PP _ bdr | go_keep) (fun hHeld => ?_)
    clear hK K
    try simp only [Act.put, sA, sB, sC]
    refine wpAnyH_ready (rs := [7, 8]) (by kernel_rfl) (by simp) ?_
    refine rC rfl (fun K hK => ?_) (rC rfl (fun K hK => ?_) AllReadyH.nil)
    ·obtain ⟨u1, w1, hrun, O1, b1⟩ := run_cpN (w := wd) 24 (some ⟨c1, 0, none⟩) (.slice sa ss.length sc) ss (dU H1 wd (bT B0 hwd)) (by omega)
     obtain ⟨-, ua, uc, rfl, -, -⟩ := O1.bs
     have hg1 := O1.ge
     try have S12 : (ss = [] ∨ es = [] ∨ bO (.slice ua ss.length uc) ≠ bO (.slice va es.length vc)) := sepA P2.lt hg1
     try have S13 : (ss = [] ∨ bO (.slice ua ss.length uc) ≠ ob) := sepC hg1 N3.lt
     try replace P2 := P2.below b1
     try replace N3 := N3.below b1
     have P1 := O1.mono hwd.size
     replace hwd := bT hwd b1
     clear O1 b1 hg1
     refine op_appR _ _ 24 24 rfl _ _ rfl rfl hrun ?_
     clear hrun
     generalize w1 = wd at *
     refine hK.out _ _ (by first | with_reducible exact dU PP _ hwd | exact dU PP _ (Below.refl _ _) | exact dU PP _ bdr | go_keep) (fun hHeld => ?_)
     clear hK K
     try simp only [Act.put, sA, sB, sC]
     refine wpAnyH_ready (rs := [8]) (by kernel_rfl) (by simp) ?_
     refine rC rfl (fun K hK => ?_) AllReadyH.nil
     go_simp
     try replace P1 := P1.below (ba wd (.cells #[] 36))
     try replace P2 := P2.below (ba wd (.cells #[] 36))
     try replace N3 := N3.below (ba wd (.cells #[] 36))
     replace hwd := bT hwd (ba wd (.cells #[] 36))
     generalize wd.heap.size = c2 at *
     generalize wd.alloc (.cells #[] 36) = wd at *
     refine hK.out _ _ (by first | with_reducible exact dU PP _ hwd | exact dU PP _ (Below.refl _ _) | exact dU PP _ bdr | go_keep) (fun hHeld => ?_)
     clear hK K
     try simp only [Act.put, sA, sB, sC]
     refine wpAnyH_ready (rs := [11]) (by kernel_rfl) (by simp) ?_
     refine rC rfl (fun K hK => ?_) AllReadyH.nil
     obtain ⟨u1, w1, hrun, O1, b1⟩ := run_cpE (w := wd) 27 (some ⟨c2, 0, none⟩) (dU H2 wd (bT B0 hwd)) (by omega)
     obtain ⟨va, vc, rfl⟩ := ApR.slice elemE O1.1
     have hg1 := O1.ge
     try have S12 : (ss = [] ∨ es = [] ∨ bO (.slice ua ss.length uc) ≠ bO (.slice va es.length vc)) := sepB P1.bs.lt hg1
     try have S23 : (es = [] ∨ bO (.slice va es.length vc) ≠ ob) := sepC hg1 N3.lt
     try replace P1 := P1.below b1
     try replace N3 := N3.below b1
     have P2 := O1.mono hwd.size
     replace hwd := bT hwd b1
     clear O1 b1 hg1
     refine op_appR _ _ 27 27 rfl _ _ rfl rfl hrun ?_
     clear hrun
     generalize w1 = wd at *
     refine hK.out _ _ (by first | with_reducible exact dU PP _ hwd | exact dU PP _ (Below.refl _ _) | exact dU PP _ bdr | go_keep) (fun hHeld => ?_)
     clear hK K
     try simp only [Act.put, sA, sB, sC]
     refine tY 14 (v := ?_) rfl (by kernel_rfl) (.inl ⟨by rfl, ?_⟩) ‹_› ?_
     rotate_left 1
     ·intro w hSw
      (try dsimp only at hSw)
      first | (go_simp; done) | (go_simp; with_reducible rfl)
     try simp only [Act.put, sA, sB, sC]
     refine wpAnyH_ready (rs := [16]) (by kernel_rfl) (by simp) ?_
     refine rC rfl (fun K hK => ?_) AllReadyH.nil
     obtain ⟨z0, g0⟩ := N3.2 0 _ rfl
     obtain ⟨z1, g1⟩ := N3.2 1 _ rfl
     obtain ⟨z2, g2⟩ := N3.2 2 _ rfl
     obtain ⟨z3, g3⟩ := N3.2 3 _ rfl
     obtain ⟨z4, g4⟩ := N3.2 4 _ rfl
     obtain ⟨z5, g5⟩ := N3.2 5 _ rfl
     have hob : w0.heap.size ≤ ob := N3.1
     go_simp
     replace P1 := ((((((P1.put4 (b := ob) (o := 0) S13 (.int .i64 f0)).put4 (b := ob) (o := 1) S13 (.int .i64 f1)).put4 (b := ob) (o := 2) S13 (.slice ua ss.length uc)).put4 (b := ob) (o := 3) S13 (.slice va es.length vc)).put4 (b := ob) (o := 4) S13 (.bool f4)).put4 (b := ob) (o := 5) S13 (.slice none 0 0))
     replace P2 := ((((((P2.put4 (b := ob) (o := 0) S23 (.int .i64 f0)).put4 (b := ob) (o := 1) S23 (.int .i64 f1)).put4 (b := ob) (o := 2) S23 (.slice ua ss.length uc)).put4 (b := ob) (o := 3) S23 (.slice va es.length vc)).put4 (b := ob) (o := 4) S23 (.bool f4)).put4 (b := ob) (o := 5) S23 (.slice none 0 0))
     have N4 := ((((((N3.put 0 (.int .i64 f0)).put 1 (.int .i64 f1)).put 2 (.slice ua ss.length uc)).put 3 (.slice va es.length vc)).put 4 (.bool f4)).put 5 (.slice none 0 0))
     replace hwd := ((((((hwd.setCell (p := ⟨ob, 0, none⟩) hob (.int .i64 f0)).setCell (p := ⟨ob, 1, none⟩) hob (.int .i64 f1)).setCell (p := ⟨ob, 2, none⟩) hob (.slice ua ss.length uc)).setCell (p := ⟨ob, 3, none⟩) hob (.slice va es.length vc)).setCell (p := ⟨ob, 4, none⟩) hob (.bool f4)).setCell (p := ⟨ob, 5, none⟩) hob (.slice none 0 0))
     clear z0 g0 z1 g1 z2 g2 z3 g3 z4 g4 z5 g5 N3
     generalize ((((((wd.setCell ⟨ob, 0, none⟩ (.int .i64 f0)).setCell ⟨ob, 1, none⟩ (.int .i64 f1)).setCell ⟨ob, 2, none⟩ (.slice ua ss.length uc)).setCell ⟨ob, 3, none⟩ (.slice va es.length vc)).setCell ⟨ob, 4, none⟩ (.bool f4)).setCell ⟨ob, 5, none⟩ (.slice none 0 0)) = wd at *
     refine hK.out _ _ (by first | with_reducible exact dU PP _ hwd | exact dU PP _ (Below.refl _ _) | exact dU PP _ bdr | go_keep) (fun hHeld => ?_)
     clear hK K
     try simp only [Act.put, sA, sB, sC]
     refine wpAnyH_done (by kernel_rfl) ?_ _
     refine NoPanic.normal ?_
     go_wp2_with fail
     go_meet
     case rel => exact ⟨ob, ua, uc, va, vc, rfl, N4, P1, P2, S12, S13, S23, hwd⟩
    ·go_simp
     try replace P1 := P1.below (ba wd (.cells #[] 36))
     try replace P2 := P2.below (ba wd (.cells #[] 36))
     try replace N3 := N3.below (ba wd (.cells #[] 36))
     replace hwd := bT hwd (ba wd (.cells #[] 36))
     generalize wd.heap.size = c2 at *
     generalize wd.alloc (.cells #[] 36) = wd at *
     refine hK.out _ _ (by first | with_reducible exact dU PP _ hwd | exact dU PP _ (Below.refl _ _) | exact dU PP _ bdr | go_keep) (fun hHeld => ?_)
     clear hK K
     try simp only [Act.put, sA, sB, sC]
     refine wpAnyH_ready (rs := [7]) (by kernel_rfl) (by simp) ?_
     refine rC rfl (fun K hK => ?_) AllReadyH.nil
     obtain ⟨u1, w1, hrun, O1, b1⟩ := run_cpN (w := wd) 24 (some ⟨c1, 0, none⟩) (.slice sa ss.length sc) ss (dU H1 wd (bT B0 hwd)) (by omega)
     obtain ⟨-, ua, uc, rfl, -, -⟩ := O1.bs
     have hg1 := O1.ge
     try have S12 : (ss = [] ∨ es = [] ∨ bO (.slice ua ss.length uc) ≠ bO (.slice va es.length vc)) := sepA P2.lt hg1
     try have S13 : (ss = [] ∨ bO (.slice ua ss.length uc) ≠ ob) := sepC hg1 N3.lt
     try replace P2 := P2.below b1
     try replace N3 := N3.below b1
     have P1 := O1.mono hwd.size
     replace hwd := bT hwd b1
     clear O1 b1 hg1
     refine op_appR _ _ 24 24 rfl _ _ rfl rfl hrun ?_
     clear hrun
     generalize w1 = wd at *
     refine hK.out _ _ (by first | with_reducible exact dU PP _ hwd | exact dU PP _ (Below.refl _ _) | exact dU PP _ bdr | go_keep) (fun hHeld => ?_)
     clear hK K
     try simp only [Act.put, sA, sB, sC]
     refine wpAnyH_ready (rs := [11]) (by kernel_rfl) (by simp) ?_
     refine rC rfl (fun K hK => ?_) AllReadyH.nil
     obtain ⟨u1, w1, hrun, O1, b1⟩ := run_cpE (w := wd) 27 (some ⟨c2, 0, none⟩) (dU H2 wd (bT B0 hwd)) (by omega)
     obtain ⟨va, vc, rfl⟩ := ApR.slice elemE O1.1
     have hg1 := O1.ge
     try have S12 : (ss = [] ∨ es = [] ∨ bO (.slice ua ss.length uc) ≠ bO (.slice va es.length vc)) := sepB P1.bs.lt hg1
     try have S23 : (es = [] ∨ bO (.slice va es.length vc) ≠ ob) := sepC hg1 N3.lt
     try replace P1 := P1.below b1
     try replace N3 := N3.below b1
     have P2 := O1.mono hwd.size
     replace hwd := bT hwd b1
     clear O1 b1 hg1
     refine op_appR _ _ 27 27 rfl _ _ rfl rfl hrun ?_
     clear hrun
     generalize w1 = wd at *
     refine hK.out _ _ (by first | with_reducible exact dU PP _ hwd | exact dU PP _ (Below.refl _ _) | exact dU PP _ bdr | go_keep) (fun hHeld => ?_)
     clear hK K
     try simp only [Act.put, sA, sB, sC]
     refine tY 14 (v := ?_) rfl (by kernel_rfl) (.inl ⟨by rfl, ?_⟩) ‹_› ?_
     rotate_left 1
     ·intro w hSw
      (try dsimp only at hSw)
      first | (go_simp; done) | (go_simp; with_reducible rfl)
     try simp only [Act.put, sA, sB, sC]
     refine wpAnyH_ready (rs := [16]) (by kernel_rfl) (by simp) ?_
     refine rC rfl (fun K hK => ?_) AllReadyH.nil
     obtain ⟨z0, g0⟩ := N3.2 0 _ rfl
     obtain ⟨z1, g1⟩ := N3.2 1 _ rfl
     obtain ⟨z2, g2⟩ := N3.2 2 _ rfl
     obtain ⟨z3, g3⟩ := N3.2 3 _ rfl
     obtain ⟨z4, g4⟩ := N3.2 4 _ rfl
     obtain ⟨z5, g5⟩ := N3.2 5 _ rfl
     have hob : w0.heap.size ≤ ob := N3.1
     go_simp
     replace P1 := ((((((P1.put4 (b := ob) (o := 0) S13 (.int .i64 f0)).put4 (b := ob) (o := 1) S13 (.int .i64 f1)).put4 (b := ob) (o := 2) S13 (.slice ua ss.length uc)).put4 (b := ob) (o := 3) S13 (.slice va es.length vc)).put4 (b := ob) (o := 4) S13 (.bool f4)).put4 (b := ob) (o := 5) S13 (.slice none 0 0))
     replace P2 := ((((((P2.put4 (b := ob) (o := 0) S23 (.int .i64 f0)).put4 (b := ob) (o := 1) S23 (.int .i64 f1)).put4 (b := ob) (o := 2) S23 (.slice ua ss.length uc)).put4 (b := ob) (o := 3) S23 (.slice va es.length vc)).put4 (b := ob) (o := 4) S23 (.bool f4)).put4 (b := ob) (o := 5) S23 (.slice none 0 0))
     have N4 := ((((((N3.put 0 (.int .i64 f0)).put 1 (.int .i64 f1)).put 2 (.slice ua ss.length uc)).put 3 (.slice va es.length vc)).put 4 (.bool f4)).put 5 (.slice none 0 0))
     replace hwd := ((((((hwd.setCell (p := ⟨ob, 0, none⟩) hob (.int .i64 f0)).setCell (p := ⟨ob, 1, none⟩) hob (.int .i64 f1)).setCell (p := ⟨ob, 2, none⟩) hob (.slice ua ss.length uc)).setCell (p := ⟨ob, 3, none⟩) hob (.slice va es.length vc)).setCell (p := ⟨ob, 4, none⟩) hob (.bool f4)).setCell (p := ⟨ob, 5, none⟩) hob (.slice none 0 0))
     clear z0 g0 z1 g1 z2 g2 z3 g3 z4 g4 z5 g5 N3
     generalize ((((((wd.setCell ⟨ob, 0, none⟩ (.int .i64 f0)).setCell ⟨ob, 1, none⟩ (.int .i64 f1)).setCell ⟨ob, 2, none⟩ (.slice ua ss.length uc)).setCell ⟨ob, 3, none⟩ (.slice va es.length vc)).setCell ⟨ob, 4, none⟩ (.bool f4)).setCell ⟨ob, 5, none⟩ (.slice none 0 0)) = wd at *
     refine hK.out _ _ (by first | with_reducible exact dU PP _ hwd | exact dU PP _ (Below.refl _ _) | exact dU PP _ bdr | go_keep) (fun hHeld => ?_)
     clear hK K
     try simp only [Act.put, sA, sB, sC]
     refine wpAnyH_done (by kernel_rfl) ?_ _
     refine NoPanic.normal ?_
     go_wp2_with fail
     go_meet
     case rel => exact ⟨ob, ua, uc, va, vc, rfl, N4, P1, P2, S12, S13, S23, hwd⟩
  ·go_simp
   try replace P1 := P1.below (ba wd (.cells #[] 36))
   try replace P2 := P2.below (ba wd (.cells #[] 36))
   try replace N3 := N3.below (ba wd (.cells #[] 36))
   replace hwd := bT hwd (ba wd (.cells #[] 36))
   generalize wd.heap.size = c2 at *
   generalize wd.alloc (.cells #[] 36) = wd at *
   refine hK.out _ _ (by first | with_reducible exact dU PP _ hwd | exact dU PP _ (Below.refl _ _) | exact dU PP _ bdr | go_keep) (fun hHeld => ?_)
   clear hK K
   try simp only [Act.put, sA, sB, sC]
   refine wpAnyH_ready (rs := [4, 15]) (by kernel_rfl) (by simp) ?_
   refine rC rfl (fun K hK => ?_) (rC rfl (fun K hK => ?_) AllReadyH.nil)
   ·go_simp
    try replace P1 := P1.below (ba wd (.cells #[] 3))
    try replace P2 := P2.below (ba wd (.cells #[] 3))
    try replace N3 := N3.below (ba wd (.cells #[] 3))
    replace hwd := bT hwd (ba wd (.cells #[] 3))
    generalize wd.heap.size = c1 at *
    generalize wd.alloc (.cells #[] 3) = wd at *
    refine hK.out _ _ (by first | with_reducible exact dU PP _ hwd | exact dU PP _ (Below.refl _ _) | exact dU PP _ bdr | go_keep) (fun hHeld => ?_)
    clear hK K
    try simp only [Act.put, sA, sB, sC]
    refine wpAnyH_ready (rs := [7, 15]) (by kernel_rfl) (by simp) ?_
    refine rC rfl (fun K hK => ?_) (rC rfl (fun K hK => ?_) AllReadyH.nil)
    ·obtain ⟨u1, w1, hrun, O1, b1⟩ := run_cpN (w := wd) 24 (some ⟨c1, 0, none⟩) (.slice sa ss.length sc) ss (dU H1 wd (bT B0 hwd)) (by omega)
     obtain ⟨-, ua, uc, rfl, -, -⟩ := O1.bs
     have hg1 := O1.ge
     try have S12 : (ss = [] ∨ es = [] ∨ bO (.slice ua ss.length uc) ≠ bO (.slice va es.length vc)) := sepA P2.lt hg1
     try have S13 : (ss = [] ∨ bO (.slice ua ss.length uc) ≠ ob) := sepC hg1 N3.lt
     try replace P2 := P2.below b1
     try replace N3 := N3.below b1
     have P1 := O1.mono hwd.size
     replace hwd := bT hwd b1
     clear O1 b1 hg1
     refine op_appR _ _ 24 24 rfl _ _ rfl rfl hrun ?_
     clear hrun
     generalize w1 = wd at *
     refine hK.out _ _ (by first | with_reducible exact dU PP _ hwd | exact dU PP _ (Below.refl _ _) | exact dU PP _ bdr | go_keep) (fun hHeld => ?_)
     clear hK K
     try simp only [Act.put, sA, sB, sC]
     refine wpAnyH_ready (rs := [11, 15]) (by kernel_rfl) (by simp) ?_
     refine rC rfl (fun K hK => ?_) (rC rfl (fun K hK => ?_) AllReadyH.nil)
     ·obtain ⟨u1, w1, hrun, O1, b1⟩ := run_cpE (w := wd) 27 (some ⟨c2, 0, none⟩) (dU H2 wd (bT B0 hwd)) (by omega)
      obtain ⟨va, vc, rfl⟩ := ApR.slice elemE O1.1
      have hg1 := O1.ge
      try have S12 : (ss = [] ∨ es = [] ∨ bO (.slice ua ss.length uc) ≠ bO (.slice va es.length vc)) := sepB P1.bs.lt hg1
      try have S23 : (es = [] ∨ bO (.slice va es.length vc) ≠ ob) := sepC hg1 N3.lt
      try replace P1 := P1.below b1
      try replace N3 := N3.below b1
      have P2 := O1.mono hwd.size
      replace hwd := bT hwd b1
      clear O1 b1 hg1
      refine op_appR _ _ 27 27 rfl _ _ rfl rfl hrun ?_
      clear hrun
      generalize w1 = wd at *
      refine hK.out _ _ (by first | with_reducible exact dU PP _ hwd | exact dU PP _ (Below.refl _ _) | exact dU PP _ bdr | go_keep) (fun hHeld => ?_)
      clear hK K
      try simp only [Act.put, sA, sB, sC]
      refine tY 14 (v := ?_) rfl (by kernel_rfl) (.inl ⟨by rfl, ?_⟩) ‹_› ?_
      rotate_left 1
      ·intro w hSw
       (try dsimp only at hSw)
       first | (go_simp; done) | (go_simp; with_reducible rfl)
      try simp only [Act.put, sA, sB, sC]
      refine wpAnyH_ready (rs := [15]) (by kernel_rfl) (by simp) ?_
      refine rC rfl (fun K hK => ?_) AllReadyH.nil
      go_simp
      have N3 := BxZ.new (B := w0.heap.size) wd [.int .i64 0, .int .i64 0, .slice none 0 0, .slice none 0 0, .bool false, .slice none 0 0] 30 hwd.size
      try have S13 : (ss = [] ∨ bO (.slice ua ss.length uc) ≠ wd.heap.size) := sepD P1.bs.lt
      try have S23 : (es = [] ∨ bO (.slice va es.length vc) ≠ wd.heap.size) := sepD P2.lt
      try replace P1 := P1.below (ba wd (.cells #[.int .i64 0, .int .i64 0, .slice none 0 0, .slice none 0 0, .bool false, .slice none 0 0] 30))
      try replace P2 := P2.below (ba wd (.cells #[.int .i64 0, .int .i64 0, .slice none 0 0, .slice none 0 0, .bool false, .slice none 0 0] 30))
      replace hwd := bT hwd (ba wd (.cells #[.int .i64 0, .int .i64 0, .slice none 0 0, .slice none 0 0, .bool false, .slice none 0 0] 30))
      generalize wd.heap.size = ob at *
      generalize wd.alloc (.cells #[.int .i64 0, .int .i64 0, .slice none 0 0, .slice none 0 0, .bool false, .slice none 0 0] 30) = wd at *
      refine hK.out _ _ (by first | with_reducible exact dU PP _ hwd | exact dU PP _ (Below.refl _ _) | exact dU PP _ bdr | go_keep) (fun hHeld => ?_)
      clear hK K
      try simp only [Act.put, sA, sB, sC]
      refine wpAnyH_ready (rs := [16]) (by kernel_rfl) (by simp) ?_
      refine rC rfl (fun K hK => ?_) AllReadyH.nil
      obtain ⟨z0, g0⟩ := N3.2 0 _ rfl
      obtain ⟨z1, g1⟩ := N3.2 1 _ rfl
      obtain ⟨z2, g2⟩ := N3.2 2 _ rfl
      obtain ⟨z3, g3⟩ := N3.2 3 _ rfl
      obtain ⟨z4, g4⟩ := N3.2 4 _ rfl
      obtain ⟨z5, g5⟩ := N3.2 5 _ rfl
      have hob : w0.heap.size ≤ ob := N3.1
      go_simp
      replace P1 := ((((((P1.put4 (b := ob) (o := 0) S13 (.int .i64 f0)).put4 (b := ob) (o := 1) S13 (.int .i64 f1)).put4 (b := ob) (o := 2) S13 (.slice ua ss.length uc)).put4 (b := ob) (o := 3) S13 (.slice va es.length vc)).put4 (b := ob) (o := 4) S13 (.bool f4)).put4 (b := ob) (o := 5) S13 (.slice none 0 0))
      replace P2 := ((((((P2.put4 (b := ob) (o := 0) S23 (.int .i64 f0)).put4 (b := ob) (o := 1) S23 (.int .i64 f1)).put4 (b := ob) (o := 2) S23 (.slice ua ss.length uc)).put4 (b := ob) (o := 3) S23 (.slice va es.length vc)).put4 (b := ob) (o := 4) S23 (.bool f4)).put4 (b := ob) (o := 5) S23 (.slice none 0 0))
      have N4 := ((((((N3.put 0 (.int .i64 f0)).put 1 (.int .i64 f1)).put 2 (.slice ua ss.length uc)).put 3 (.slice va es.length vc)).put 4 (.bool f4)).put 5 (.slice none 0 0))
      replace hwd := ((((((hwd.setCell (p := ⟨ob, 0, none⟩) hob (.int .i64 f0)).setCell (p := ⟨ob, 1, none⟩) hob (.int .i64 f1)).setCell (p := ⟨ob, 2, none⟩) hob (.slice ua ss.length uc)).setCell (p := ⟨ob, 3, none⟩) hob (.slice va es.length vc)).setCell (p := ⟨ob, 4, none⟩) hob (.bool f4)).setCell (p := ⟨ob, 5, none⟩) hob (.slice none 0 0))
      clear z0 g0 z1 g1 z2 g2 z3 g3 z4 g4 z5 g5 N3
      generalize ((((((wd.setCell ⟨ob, 0, none⟩ (.int .i64 f0)).setCell ⟨ob, 1, none⟩ (.int .i64 f1)).setCell ⟨ob, 2, none⟩ (.slice ua ss.length uc)).setCell ⟨ob, 3, none⟩ (.slice va es.length vc)).setCell ⟨ob, 4, none⟩ (.bool f4)).setCell ⟨ob, 5, none⟩ (.slice none 0 0)) = wd at *
      refine hK.out _ _ (by first | with_reducible exact dU PP _ hwd | exact dU PP _ (Below.refl _ _) | exact dU PP _ bdr | go_keep) (fun hHeld => ?_)
      clear hK K
      try simp only [Act.put, sA, sB, sC]
      refine wpAnyH_done (by kernel_rfl) ?_ _
      refine NoPanic.normal ?_
      go_wp2_with fail
      go_meet
      case rel => exact ⟨ob, ua, uc, va, vc, rfl, N4, P1, P2, S12, S13, S23, hwd⟩
     ·go_simp
      have N3 := BxZ.new (B := w0.heap.size) wd [.int .i64 0, .int .i64 0, .slice none 0 0, .slice none 0 0, .bool false, .slice none 0 0] 30 hwd.size
      try have S13 : (ss = [] ∨ bO (.slice ua ss.length uc) ≠ wd.heap.size) := sepD P1.bs.lt
      try have S23 : (es = [] ∨ bO (.slice va es.length vc) ≠ wd.heap.size) := sepD P2.lt
      try replace P1 := P1.below (ba wd (.cells #[.int .i64 0, .int .i64 0, .slice none 0 0, .slice none 0 0, .bool false, .slice none 0 0] 30))
      try replace P2 := P2.below (ba wd (.cells #[.int .i64 0, .int .i64 0, .slice none 0 0, .slice none 0 0, .bool false, .slice none 0 0] 30))
      replace hwd := bT hwd (ba wd (.cells #[.int .i64 0, .int .i64 0, .slice none 0 0, .slice none 0 0, .bool false, .slice none 0 0] 30))
      generalize wd.heap.size = ob at *
      generalize wd.alloc (.cells #[.int .i64 0, .int .i64 0, .slice none 0 0, .slice none 0 0, .bool false, .slice none 0 0] 30) = wd at *
      refine hK.out _ _ (by first | with_reducible exact dU PP _ hwd | exact dU PP _ (Below.refl _ _) | exact dU PP _ bdr | go_keep) (fun hHeld => ?_)
      clear hK K
      try simp only [Act.put, sA, sB, sC]
      refine wpAnyH_ready (rs := [11]) (by kernel_rfl) (by simp) ?_
      refine rC rfl (fun K hK => ?_) AllReadyH.nil
      obtain ⟨u1, w1, hrun, O1, b1⟩ := run_cpE (w := wd) 27 (some ⟨c2, 0, none⟩) (dU H2 wd (bT B0 hwd)) (by omega)
      obtain ⟨va, vc, rfl⟩ := ApR.slice elemE O1.1
      have hg1 := O1.ge
      try have S12 : (ss = [] ∨ es = [] ∨ bO (.slice ua ss.length uc) ≠ bO (.slice va es.length vc)) := sepB P1.bs.lt hg1
      try have S23 : (es = [] ∨ bO (.slice va es.length vc) ≠ ob) := sepC hg1 N3.lt
      try replace P1 := P1.below b1
      try replace N3 := N3.below b1
      have P2 := O1.mono hwd.size
      replace hwd := bT hwd b1
      clear O1 b1 hg1
      refine op_appR _ _ 27 27 rfl _ _ rfl rfl hrun ?_
      clear hrun
      generalize w1 = wd at *
      refine hK.out _ _ (by first | with_reducible exact dU PP _ hwd | exact dU PP _ (Below.refl _ _) | exact dU PP _ bdr | go_keep) (fun hHeld => ?_)
      clear hK K
      try simp only [Act.put, sA, sB, sC]
      refine tY 14 (v := ?_) rfl (by kernel_rfl) (.inl ⟨by rfl, ?_⟩) ‹_› ?_
      rotate_left 1
      ·intro w hSw
       (try dsimp only at hSw)
       first | (go_simp; done) | (go_simp; with_reducible rfl)
      try simp only [Act.put, sA, sB, sC]
      refine wpAnyH_ready (rs := [16]) (by kernel_rfl) (by simp) ?_
      refine rC rfl (fun K hK => ?_) AllReadyH.nil
      obtain ⟨z0, g0⟩ := N3.2 0 _ rfl
      obtain ⟨z1, g1⟩ := N3.2 1 _ rfl
      obtain ⟨z2, g2⟩ := N3.2 2 _ rfl
      obtain ⟨z3, g3⟩ := N3.2 3 _ rfl
      obtain ⟨z4, g4⟩ := N3.2 4 _ rfl
      obtain ⟨z5, g5⟩ := N3.2 5 _ rfl
      have hob : w0.heap.size ≤ ob := N3.1
      go_simp
      replace P1 := ((((((P1.put4 (b := ob) (o := 0) S13 (.int .i64 f0)).put4 (b := ob) (o := 1) S13 (.int .i64 f1)).put4 (b := ob) (o := 2) S13 (.slice ua ss.length uc)).put4 (b := ob) (o := 3) S13 (.slice va es.length vc)).put4 (b := ob) (o := 4) S13 (.bool f4)).put4 (b := ob) (o := 5) S13 (.slice none 0 0))
      replace P2 := ((((((P2.put4 (b := ob) (o := 0) S23 (.int .i64 f0)).put4 (b := ob) (o := 1) S23 (.int .i64 f1)).put4 (b := ob) (o := 2) S23 (.slice ua ss.length uc)).put4 (b := ob) (o := 3) S23 (.slice va es.length vc)).put4 (b := ob) (o := 4) S23 (.bool f4)).put4 (b := ob) (o := 5) S23 (.slice none 0 0))
      have N4 := ((((((N3.put 0 (.int .i64 f0)).put 1 (.int .i64 f1)).put 2 (.slice ua ss.length uc)).put 3 (.slice va es.length vc)).put 4 (.bool f4)).put 5 (.slice none 0 0))
      replace hwd := ((((((hwd.setCell (p := ⟨ob, 0, none⟩) hob (.int .i64 f0)).setCell (p := ⟨ob, 1, none⟩) hob (.int .i64 f1)).setCell (p := ⟨ob, 2, none⟩) hob (.slice ua ss.length uc)).setCell (p := ⟨ob, 3, none⟩) hob (.slice va es.length vc)).setCell (p := ⟨ob, 4, none⟩) hob (.bool f4)).setCell (p := ⟨ob, 5, none⟩) hob (.slice none 0 0))
      clear z0 g0 z1 g1 z2 g2 z3 g3 z4 g4 z5 g5 N3
      generalize ((((((wd.setCell ⟨ob, 0, none⟩ (.int .i64 f0)).setCell ⟨ob, 1, none⟩ (.int .i64 f1)).setCell ⟨ob, 2, none⟩ (.slice ua ss.length uc)).setCell ⟨ob, 3, none⟩ (.slice va es.length vc)).setCell ⟨ob, 4, none⟩ (.bool f4)).setCell ⟨ob, 5, none⟩ (.slice none 0 0)) = wd at *
      refine hK.out _ _ (by first | with_reducible exact dU PP _ hwd | exact dU PP _ (Below.refl _ _) | exact dU PP _ bdr | go_keep) (fun hHeld => ?_)
      clear hK K
      try simp only [Act.put, sA, sB, sC]
      refine wpAnyH_done (by kernel_rfl) ?_ _
      refine NoPanic.normal ?_
      go_wp2_with fail
      go_meet
      case rel => exact ⟨ob, ua, uc, va, vc, rfl, N4, P1, P2, S12, S13, S23, hwd⟩
    ·go_simp
     have N3 := BxZ.new (B := w0.heap.size) wd [.int .i64 0, .int .i64 0, .slice none 0 0, .slice none 0 0, .bool false, .slice none 0 0] 30 hwd.size
     try have S13 : (ss = [] ∨ bO (.slice ua ss.length uc) ≠ wd.heap.size) := sepD P1.bs.lt
     try have S23 : (es = [] ∨ bO (.slice va es.length vc) ≠ wd.heap.size) := sepD P2.lt
     try replace P1 := P1.below (ba wd (.cells #[.int .i64 0, .int .i64 0, .slice none 0 0, .slice none 0 0, .bool false, .slice none 0 0] 30))
     try replace P2 := P2.below (ba wd (.cells #[.int .i64 0, .int .i64 0, .slice none 0 0, .slice none 0 0, .bool false, .slice none 0 0] 30))
     replace hwd := bT hwd (ba wd (.cells #[.int .i64 0, .int .i64 0, .slice none 0 0, .slice none 0 0, .bool false, .slice none 0 0] 30))
     generalize wd.heap.size = ob at *
     generalize wd.alloc (.cells #[.int .i64 0, .int .i64 0, .slice none 0 0, .slice none 0 0, .bool false, .slice none 0 0] 30) = wd at *
     refine hK.out _ _ (by first | with_reducible exact dU PP _ hwd | exact dU PP _ (Below.refl _ _) | exact dU PP _ bdr | go_keep) (fun hHeld => ?_)
     clear hK K
     try simp only [Act.put, sA, sB, sC]
     refine wpAnyH_ready (rs := [7]) (by kernel_rfl) (by simp) ?_
     refine rC rfl (fun K hK => ?_) AllReadyH.nil
     obtain ⟨u1, w1, hrun, O1, b1⟩ := run_cpN (w := wd) 24 (some ⟨c1, 0, none⟩) (.slice sa ss.length sc) ss (dU H1 wd (bT B0 hwd)) (by omega)
     obtain ⟨-, ua, uc, rfl, -, -⟩ := O1.bs
     have hg1 := O1.ge
     try have S12 : (ss = [] ∨ es = [] ∨ bO (.slice ua ss.length uc) ≠ bO (.slice va es.length vc)) := sepA P2.lt hg1
     try have S13 : (ss = [] ∨ bO (.slice ua ss.length uc) ≠ ob) := sepC hg1 N3.lt
     try replace P2 := P2.below b1
     try replace N3 := N3.below b1
     have P1 := O1.mono hwd.size
     replace hwd := bT hwd b1
     clear O1 b1 hg1
     refine op_appR _ _ 24 24 rfl _ _ rfl rfl hrun ?_
     clear hrun
     generalize w1 = wd at *
     refine hK.out _ _ (by first | with_reducible exact dU PP _ hwd | exact dU PP _ (Below.refl _ _) | exact dU PP _ bdr | go_keep) (fun hHeld => ?_)
     clear hK K
     try simp only [Act.put, sA, sB, sC]
     refine wpAnyH_ready (rs := [11]) (by kernel_rfl) (by simp) ?_
     refine rC rfl (fun K hK => ?_) AllReadyH.nil
     obtain ⟨u1, w1, hrun, O1, b1⟩ := run_cpE (w := wd) 27 (some ⟨c2, 0, none⟩) (dU H2 wd (bT B0 hwd)) (by omega)
     obtain ⟨va, vc, rfl⟩ := ApR.slice elemE O1.1
     have hg1 := O1.ge
     try have S12 : (ss = [] ∨ es = [] ∨ bO (.slice ua ss.length uc) ≠ bO (.slice va es.length vc)) := sepB P1.bs.lt hg1
     try have S23 : (es = [] ∨ bO (.slice va es.length vc) ≠ ob) := sepC hg1 N3.lt
     try replace P1 := P1.below b1
     try replace N3 := N3.below b1
     have P2 := O1.mono hwd.size
     replace hwd := bT hwd b1
     clear O1 b1 hg1
     refine op_appR _ _ 27 27 rfl _ _ rfl rfl hrun ?_
     clear hrun
     generalize w1 = wd at *
     refine hK.out _ _ (by first | with_reducible exact dU PP _ hwd | exact dU PP _ (Below.refl _ _) | exact dU PP _ bdr | go_keep) (fun hHeld => ?_)
     clear hK K
     try simp only [Act.put, sA, sB, sC]
     refine tY 14 (v := ?_) rfl (by kernel_rfl) (.inl ⟨by rfl, ?_⟩) ‹_› ?_
     rotate_left 1
     ·intro w hSw
      (try dsimp only at hSw)
      first | (go_simp; done) | (go_simp; with_reducible rfl)
     try simp only [Act.put, sA, sB, sC]
     refine wpAnyH_ready (rs := [16]) (by kernel_rfl) (by simp) ?_
     refine rC rfl (fun K hK => ?_) AllReadyH.nil
     obtain ⟨z0, g0⟩ := N3.2 0 _ rfl
     obtain ⟨z1, g1⟩ := N3.2 1 _ rfl
     obtain ⟨z2, g2⟩ := N3.2 2 _ rfl
     obtain ⟨z3, g3⟩ := N3.2 3 _ rfl
     obtain ⟨z4, g4⟩ := N3.2 4 _ rfl
     obtain ⟨z5, g5⟩ := N3.2 5 _ rfl
     have hob : w0.heap.size ≤ ob := N3.1
     go_simp
     replace P1 := ((((((P1.put4 (b := ob) (o := 0) S13 (.int .i64 f0)).put4 (b := ob) (o := 1) S13 (.int .i64 f1)).put4 (b := ob) (o := 2) S13 (.slice ua ss.length uc)).put4 (b := ob) (o := 3) S13 (.slice va es.length vc)).put4 (b := ob) (o := 4) S13 (.bool f4)).put4 (b := ob) (o := 5) S13 (.slice none 0 0))
     replace P2 := ((((((P2.put4 (b := ob) (o := 0) S23 (.int .i64 f0)).put4 (b := ob) (o := 1) S23 (.int .i64 f1)).put4 (b := ob) (o := 2) S23 (.slice ua ss.length uc)).put4 (b := ob) (o := 3) S23 (.slice va es.length vc)).put4 (b := ob) (o := 4) S23 (.bool f4)).put4 (b := ob) (o := 5) S23 (.slice none 0 0))
     have N4 := ((((((N3.put 0 (.int .i64 f0)).put 1 (.int .i64 f1)).put 2 (.slice ua ss.length uc)).put 3 (.slice va es.length vc)).put 4 (.bool f4)).put 5 (.slice none 0 0))
     replace hwd := ((((((hwd.setCell (p := ⟨ob, 0, none⟩) hob (.int .i64 f0)).setCell (p := ⟨ob, 1, none⟩) hob (.int .i64 f1)).setCell (p := ⟨ob, 2, none⟩) hob (.slice ua ss.length uc)).setCell (p := ⟨ob, 3, none⟩) hob (.slice va es.length vc)).setCell (p := ⟨ob, 4, none⟩) hob (.bool f4)).setCell (p := ⟨ob, 5, none⟩) hob (.slice none 0 0))
     clear z0 g0 z1 g1 z2 g2 z3 g3 z4 g4 z5 g5 N3
     generalize ((((((wd.setCell ⟨ob, 0, none⟩ (.int .i64 f0)).setCell ⟨ob, 1, none⟩ (.int .i64 f1)).setCell ⟨ob, 2, none⟩ (.slice ua ss.length uc)).setCell ⟨ob, 3, none⟩ (.slice va es.length vc)).setCell ⟨ob, 4, none⟩ (.bool f4)).setCell ⟨ob, 5, none⟩ (.slice none 0 0)) = wd at *
     refine hK.out _ _ (by first | with_reducible exact dU PP _ hwd | exact dU PP _ (Below.refl _ _) | exact dU PP _ bdr | go_keep) (fun hHeld => ?_)
     clear hK K
     try simp only [Act.put, sA, sB, sC]
     refine wpAnyH_done (by kernel_rfl) ?_ _
     refine NoPanic.normal ?_
     go_wp2_with fail
     go_meet
     case rel => exact ⟨ob, ua, uc, va, vc, rfl, N4, P1, P2, S12, S13, S23, hwd⟩
   ·go_simp
    have N3 := BxZ.new (B := w0.heap.size) wd [.int .i64 0, .int .i64 0, .slice none 0 0, .slice none 0 0, .bool false, .slice none 0 0] 30 hwd.size
    try have S13 : (ss = [] ∨ bO (.slice ua ss.length uc) ≠ wd.heap.size) := sepD P1.bs.lt
    try have S23 : (es = [] ∨ bO (.slice va es.length vc) ≠ wd.heap.size) := sepD P2.lt
    try replace P1 := P1.below (ba wd (.cells #[.int .i64 0, .int .i64 0, .slice none 0 0, .slice none 0 0, .bool false, .slice none 0 0] 30))
    try replace P2 := P2.below (ba wd (.cells #[.int .i64 0, .int .i64 0, .slice none 0 0, .slice none 0 0, .bool false, .slice none 0 0] 30))
    replace hwd := bT hwd (ba wd (.cells #[.int .i64 0, .int .i64 0, .slice none 0 0, .slice none 0 0, .bool false, .slice none 0 0] 30))
    generalize wd.heap.size = ob at *
    generalize wd.alloc (.cells #[.int .i64 0, .int .i64 0, .slice none 0 0, .slice none 0 0, .bool false, .slice none 0 0] 30) = wd at *
    refine hK.out _ _ (by first | with_reducible exact dU PP _ hwd | exact dU PP _ (Below.refl _ _) | exact dU PP _ bdr | go_keep) (fun hHeld => ?_)
    clear hK K
    try simp only [Act.put, sA, sB, sC]
    refine wpAnyH_ready (rs := [4]) (by kernel_rfl) (by simp) ?_
    refine rC rfl (fun K hK => ?_) AllReadyH.nil
    go_simp
    try replace P1 := P1.below (ba wd (.cells #[] 3))
    try replace P2 := P2.below (ba wd (.cells #[] 3))
    try replace N3 := N3.below (ba wd (.cells #[] 3))
    replace hwd := bT hwd (ba wd (.cells #[] 3))
    generalize wd.heap.size = c1 at *
    generalize wd.alloc (.cells #[] 3) = wd at *
    refine hK.out _ _ (by first | with_reducible exact dU PP _ hwd | exact dU PP _ (Below.refl _ _) | exact dU PP _ bdr | go_keep) (fun hHeld => ?_)
    clear hK K
    try simp only [Act.put, sA, sB, sC]
    refine wpAnyH_ready (rs := [7]) (by kernel_rfl) (by simp) ?_
    refine rC rfl (fun K hK => ?_) AllReadyH.nil
    obtain ⟨u1, w1, hrun, O1, b1⟩ := run_cpN (w := wd) 24 (some ⟨c1, 0, none⟩) (.slice sa ss.length sc) ss (dU H1 wd (bT B0 hwd)) (by omega)
    obtain ⟨-, ua, uc, rfl, -, -⟩ := O1.bs
    have hg1 := O1.ge
    try have S12 : (ss = [] ∨ es = [] ∨ bO (.slice ua ss.length uc) ≠ bO (.slice va es.length vc)) := sepA P2.lt hg1
    try have S13 : (ss = [] ∨ bO (.slice ua ss.length uc) ≠ ob) := sepC hg1 N3.lt
    try replace P2 := P2.below b1
    try replace N3 := N3.below b1
    have P1 := O1.mono hwd.size
    replace hwd := bT hwd b1
    clear O1 b1 hg1
    refine op_appR _ _ 24 24 rfl _ _ rfl rfl hrun ?_
    clear hrun
    generalize w1 = wd at *
    refine hK.out _ _ (by first | with_reducible exact dU PP _ hwd | exact dU PP _ (Below.refl _ _) | exact dU PP _ bdr | go_keep) (fun hHeld => ?_)
    clear hK K
    try simp only [Act.put, sA, sB, sC]
    refine wpAnyH_ready (rs := [11]) (by kernel_rfl) (by simp) ?_
    refine rC rfl (fun K hK => ?_) AllReadyH.nil
    obtain ⟨u1, w1, hrun, O1, b1⟩ := run_cpE (w := wd) 27 (some ⟨c2, 0, none⟩) (dU H2 wd (bT B0 hwd)) (by omega)
    obtain ⟨va, vc, rfl⟩ := ApR.slice elemE O1.1
    have hg1 := O1.ge
    try have S12 : (ss = [] ∨ es = [] ∨ bO (.slice ua ss.length uc) ≠ bO (.slice va es.length vc)) := sepB P1.bs.lt hg1
    try have S23 : (es = [] ∨ bO (.slice va es.length vc) ≠ ob) := sepC hg1 N3.lt
    try replace P1 := P1.below b1
    try replace N3 := N3.below b1
    have P2 := O1.mono hwd.size
    replace hwd := bT hwd b1
    clear O1 b1 hg1
    refine op_appR _ _ 27 27 rfl _ _ rfl rfl hrun ?_
    clear hrun
    generalize w1 = wd at *
    refine hK.out _ _ (by first | with_reducible exact dU PP _ hwd | exact dU PP _ (Below.refl _ _) | exact dU PP _ bdr | go_keep) (fun hHeld => ?_)
    clear hK K
    try simp only [Act.put, sA, sB, sC]
    refine tY 14 (v := ?_) rfl (by kernel_rfl) (.inl ⟨by rfl, ?_⟩) ‹_› ?_
    rotate_left 1
    ·intro w hSw
     (try dsimp only at hSw)
     first | (go_simp; done) | (go_simp; with_reducible rfl)
    try simp only [Act.put, sA, sB, sC]
    refine wpAnyH_ready (rs := [16]) (by kernel_rfl) (by simp) ?_
    refine rC rfl (fun K hK => ?_) AllReadyH.nil
    obtain ⟨z0, g0⟩ := N3.2 0 _ rfl
    obtain ⟨z1, g1⟩ := N3.2 1 _ rfl
    obtain ⟨z2, g2⟩ := N3.2 2 _ rfl
    obtain ⟨z3, g3⟩ := N3.2 3 _ rfl
    obtain ⟨z4, g4⟩ := N3.2 4 _ rfl
    obtain ⟨z5, g5⟩ := N3.2 5 _ rfl
    have hob : w0.heap.size ≤ ob := N3.1
    go_simp
    replace P1 := ((((((P1.put4 (b := ob) (o := 0) S13 (.int .i64 f0)).put4 (b := ob) (o := 1) S13 (.int .i64 f1)).put4 (b := ob) (o := 2) S13 (.slice ua ss.length uc)).put4 (b := ob) (o := 3) S13 (.slice va es.length vc)).put4 (b := ob) (o := 4) S13 (.bool f4)).put4 (b := ob) (o := 5) S13 (.slice none 0 0))
    replace P2 := ((((((P2.put4 (b := ob) (o := 0) S23 (.int .i64 f0)).put4 (b := ob) (o := 1) S23 (.int .i64 f1)).put4 (b := ob) (o := 2) S23 (.slice ua ss.length uc)).put4 (b := ob) (o := 3) S23 (.slice va es.length vc)).put4 (b := ob) (o := 4) S23 (.bool f4)).put4 (b := ob) (o := 5) S23 (.slice none 0 0))
    have N4 := ((((((N3.put 0 (.int .i64 f0)).put 1 (.int .i64 f1)).put 2 (.slice ua ss.length uc)).put 3 (.slice va es.length vc)).put 4 (.bool f4)).put 5 (.slice none 0 0))
    replace hwd := ((((((hwd.setCell (p := ⟨ob, 0, none⟩) hob (.int .i64 f0)).setCell (p := ⟨ob, 1, none⟩) hob (.int .i64 f1)).setCell (p := ⟨ob, 2, none⟩) hob (.slice ua ss.length uc)).setCell (p := ⟨ob, 3, none⟩) hob (.slice va es.length vc)).setCell (p := ⟨ob, 4, none⟩) hob (.bool f4)).setCell (p := ⟨ob, 5, none⟩) hob (.slice none 0 0))
    clear z0 g0 z1 g1 z2 g2 z3 g3 z4 g4 z5 g5 N3
    generalize ((((((wd.setCell ⟨ob, 0, none⟩ (.int .i64 f0)).setCell ⟨ob, 1, none⟩ (.int .i64 f1)).setCell ⟨ob, 2, none⟩ (.slice ua ss.length uc)).setCell ⟨ob, 3, none⟩ (.slice va es.length vc)).setCell ⟨ob, 4, none⟩ (.bool f4)).setCell ⟨ob, 5, none⟩ (.slice none 0 0)) = wd at *
    refine hK.out _ _ (by first | with_reducible exact dU PP _ hwd | exact dU PP _ (Below.refl _ _) | exact dU PP _ bdr | go_keep) (fun hHeld => ?_)
    clear hK K
    try simp only [Act.put, sA, sB, sC]
    refine wpAnyH_done (by kernel_rfl) ?_ _
    refine NoPanic.normal ?_
    go_wp2_with fail
    go_meet
    case rel => exact ⟨ob, ua, uc, va, vc, rfl, N4, P1, P2, S12, S13, S23, hwd⟩
  ·go_simp
   have N3 := BxZ.new (B := w0.heap.size) wd [.int .i64 0, .int .i64 0, .slice none 0 0, .slice none 0 0, .bool false, .slice none 0 0] 30 hwd.size
   try have S13 : (ss = [] ∨ bO (.slice ua ss.length uc) ≠ wd.heap.size) := sepD P1.bs.lt
   try have S23 : (es = [] ∨ bO (.slice va es.length vc) ≠ wd.heap.size) := sepD P2.lt
   try replace P1 := P1.below (ba wd (.cells #[.int .i64 0, .int .i64 0, .slice none 0 0, .slice none 0 0, .bool false, .slice none 0 0] 30))
   try replace P2 := P2.below (ba wd (.cells #[.int .i64 0, .int .i64 0, .slice none 0 0, .slice none 0 0, .bool false, .slice none 0 0] 30))
   replace hwd := bT hwd (ba wd (.cells #[.int .i64 0, .int .i64 0, .slice none 0 0, .slice none 0 0, .bool false, .slice none 0 0] 30))
   generalize wd.heap.size = ob at *
   generalize wd.alloc (.cells #[.int .i64 0, .int .i64 0, .slice none 0 0, .slice none 0 0, .bool false, .slice none 0 0] 30) = wd at *
   refine hK.out _ _ (by first | with_reducible exact dU PP _ hwd | exact dU PP _ (Below.refl _ _) | exact dU PP _ bdr | go_keep) (fun hHeld => ?_)
   clear hK K
   try simp only [Act.put, sA, sB, sC]
   refine wpAnyH_ready (rs := [4, 8]) (by kernel_rfl) (by simp) ?_
   refine rC rfl (fun K hK => ?_) (rC rfl (fun K hK => ?_) AllReadyH.nil)
   ·go_simp
    try replace P1 := P1.below (ba wd (.cells #[] 3))
    try replace P2 := P2.below (ba wd (.cells #[] 3))
    try replace N3 := N3.below (ba wd (.cells #[] 3))
    replace hwd := bT hwd (ba wd (.cells #[] 3))
    generalize wd.heap.size = c1 at *
    generalize wd.alloc (.cells #[] 3) = wd at *
    refine hK.out _ _ (by first | with_reducible exact dU PP _ hwd | exact dU PP _ (Below.refl _ _) | exact dU PP _ bdr | go_keep) (fun hHeld => ?_)
    clear hK K
    try simp only [Act.put, sA, sB, sC]
    refine wpAnyH_ready (rs := [7, 8]) (by kernel_rfl) (by simp) ?_
    refine rC rfl (fun K hK => ?_) (rC rfl (fun K hK => ?_) AllReadyH.nil)
    ·obtain ⟨u1, w1, hrun, O1, b1⟩ := run_cpN (w := wd) 24 (some ⟨c1, 0, none⟩) (.slice sa ss.length sc) ss (dU H1 wd (bT B0 hwd)) (by omega)
     obtain ⟨-, ua, uc, rfl, -, -⟩ := O1.bs
     have hg1 := O1.ge
     try have S12 : (ss = [] ∨ es = [] ∨ bO (.slice ua ss.length uc) ≠ bO (.slice va es.length vc)) := sepA P2.lt hg1
     try have S13 : (ss = [] ∨ bO (.slice ua ss.length uc) ≠ ob) := sepC hg1 N3.lt
     try replace P2 := P2.below b1
     try replace N3 := N3.below b1
     have P1 := O1.mono hwd.size
     replace hwd := bT hwd b1
     clear O1 b1 hg1
     refine op_appR _ _ 24 24 rfl _ _ rfl rfl hrun ?_
     clear hrun
     generalize w1 = wd at *
     refine hK.out _ _ (by first | with_reducible exact dU PP _ hwd | exact dU PP _ (Below.refl _ _) | exact dU PP _ bdr | go_keep) (fun hHeld => ?_)
     clear hK K
     try simp only [Act.put, sA, sB, sC]
     refine wpAnyH_ready (rs := [8]) (by kernel_rfl) (by simp) ?_
     refine rC rfl (fun K hK => ?_) AllReadyH.nil
     go_simp
     try replace P1 := P1.below (ba wd (.cells #[] 36))
     try replace P2 := P2.below (ba wd (.cells #[] 36))
     try replace N3 := N3.below (ba wd (.cells #[] 36))
     replace hwd := bT hwd (ba wd (.cells #[] 36))
     generalize wd.heap.size = c2 at *
     generalize wd.alloc (.cells #[] 36) = wd at *
     refine hK.out _ _ (by first | with_reducible exact dU PP _ hwd | exact dU PP _ (Below.refl _ _) | exact dU PP _ bdr | go_keep) (fun hHeld => ?_)
     clear hK K
     try simp only [Act.put, sA, sB, sC]
     refine wpAnyH_ready (rs := [11]) (by kernel_rfl) (by simp) ?_
     refine rC rfl (fun K hK => ?_) AllReadyH.nil
     obtain ⟨u1, w1, hrun, O1, b1⟩ := run_cpE (w := wd) 27 (some ⟨c2, 0, none⟩) (dU H2 wd (bT B0 hwd)) (by omega)
     obtain ⟨va, vc, rfl⟩ := ApR.slice elemE O1.1
     have hg1 := O1.ge
     try have S12 : (ss = [] ∨ es = [] ∨ bO (.slice ua ss.length uc) ≠ bO (.slice va es.length vc)) := sepB P1.bs.lt hg1
     try have S23 : (es = [] ∨ bO (.slice va es.length vc) ≠ ob) := sepC hg1 N3.lt
     try replace P1 := P1.below b1
     try replace N3 := N3.below b1
     have P2 := O1.mono hwd.size
     replace hwd := bT hwd b1
     clear O1 b1 hg1
     refine op_appR _ _ 27 27 rfl _ _ rfl rfl hrun ?_
     clear hrun
     generalize w1 = wd at *
     refine hK.out _ _ (by first | with_reducible exact dU PP _ hwd | exact dU PP _ (Below.refl _ _) | exact dU PP _ bdr | go_keep) (fun hHeld => ?_)
     clear hK K
     try simp only [Act.put, sA, sB, sC]
     refine tY 14 (v := ?_) rfl (by kernel_rfl) (.inl ⟨by rfl, ?_⟩) ‹_› ?_
     rotate_left 1
     ·intro w hSw
      (try dsimp only at hSw)
      first | (go_simp; done) | (go_simp; with_reducible rfl)
     try simp only [Act.put, sA, sB, sC]
     refine wpAnyH_ready (rs := [16]) (by kernel_rfl) (by simp) ?_
     refine rC rfl (fun K hK => ?_) AllReadyH.nil
     obtain ⟨z0, g0⟩ := N3.2 0 _ rfl
     obtain ⟨z1, g1⟩ := N3.2 1 _ rfl
     obtain ⟨z2, g2⟩ := N3.2 2 _ rfl
     obtain ⟨z3, g3⟩ := N3.2 3 _ rfl
     obtain ⟨z4, g4⟩ := N3.2 4 _ rfl
     obtain ⟨z5, g5⟩ := N3.2 5 _ rfl
     have hob : w0.heap.size ≤ ob := N3.1
     go_simp
     replace P1 := ((((((P1.put4 (b := ob) (o := 0) S13 (.int .i64 f0)).put4 (b := ob) (o := 1) S13 (.int .i64 f1)).put4 (b := ob) (o := 2) S13 (.slice ua ss.length uc)).put4 (b := ob) (o := 3) S13 (.slice va es.length vc)).put4 (b := ob) (o := 4) S13 (.bool f4)).put4 (b := ob) (o := 5) S13 (.slice none 0 0))
     replace P2 := ((((((P2.put4 (b := ob) (o := 0) S23 (.int .i64 f0)).put4 (b := ob) (o := 1) S23 (.int .i64 f1)).put4 (b := ob) (o := 2) S23 (.slice ua ss.length uc)).put4 (b := ob) (o := 3) S23 (.slice va es.length vc)).put4 (b := ob) (o := 4) S23 (.bool f4)).put4 (b := ob) (o := 5) S23 (.slice none 0 0))
     have N4 := ((((((N3.put 0 (.int .i64 f0)).put 1 (.int .i64 f1)).put 2 (.slice ua ss.length uc)).put 3 (.slice va es.length vc)).put 4 (.bool f4)).put 5 (.slice none 0 0))
     replace hwd := ((((((hwd.setCell (p := ⟨ob, 0, none⟩) hob (.int .i64 f0)).setCell (p := ⟨ob, 1, none⟩) hob (.int .i64 f1)).setCell (p := ⟨ob, 2, none⟩) hob (.slice ua ss.length uc)).setCell (p := ⟨ob, 3, none⟩) hob (.slice va es.length vc)).setCell (p := ⟨ob, 4, none⟩) hob (.bool f4)).setCell (p := ⟨ob, 5, none⟩) hob (.slice none 0 0))
     clear z0 g0 z1 g1 z2 g2 z3 g3 z4 g4 z5 g5 N3
     generalize ((((((wd.setCell ⟨ob, 0, none⟩ (.int .i64 f0)).setCell ⟨ob, 1, none⟩ (.int .i64 f1)).setCell ⟨ob, 2, none⟩ (.slice ua ss.length uc)).setCell ⟨ob, 3, none⟩ (.slice va es.length vc)).setCell ⟨ob, 4, none⟩ (.bool f4)).setCell ⟨ob, 5, none⟩ (.slice none 0 0)) = wd at *
     refine hK.out _ _ (by first | with_reducible exact dU PP _ hwd | exact dU PP _ (Below.refl _ _) | exact dU PP _ bdr | go_keep) (fun hHeld => ?_)
     clear hK K
     try simp only [Act.put, sA, sB, sC]
     refine wpAnyH_done (by kernel_rfl) ?_ _
     refine NoPanic.normal ?_
     go_wp2_with fail
     go_meet
     case rel => exact ⟨ob, ua, uc, va, vc, rfl, N4, P1, P2, S12, S13, S23, hwd⟩
    ·go_simp
     try replace P1 := P1.below (ba wd (.cells #[] 36))
     try replace P2 := P2.below (ba wd (.cells #[] 36))
     try replace N3 := N3.below (ba wd (.cells #[] 36))
     replace hwd := bT hwd (ba wd (.cells #[] 36))
     generalize wd.heap.size = c2 at *
     generalize wd.alloc (.cells #[] 36) = wd at *
     refine hK.out _ _ (by first | with_reducible exact dU PP _ hwd | exact dU PP _ (Below.refl _ _) | exact dU PP _ bdr | go_keep) (fun hHeld => ?_)
     clear hK K
     try simp only [Act.put, sA, sB, sC]
     refine wpAnyH_ready (rs := [7]) (by kernel_rfl) (by simp) ?_
     refine rC rfl (fun K hK => ?_) AllReadyH.nil
     obtain ⟨u1, w1, hrun, O1, b1⟩ := run_cpN (w := wd) 24 (some ⟨c1, 0, none⟩) (.slice sa ss.length sc) ss (dU H1 wd (bT B0 hwd)) (by omega)
     obtain ⟨-, ua, uc, rfl, -, -⟩ := O1.bs
     have hg1 := O1.ge
     try have S12 : (ss = [] ∨ es = [] ∨ bO (.slice ua ss.length uc) ≠ bO (.slice va es.length vc)) := sepA P2.lt hg1
     try have S13 : (ss = [] ∨ bO (.slice ua ss.length uc) ≠ ob) := sepC hg1 N3.lt
     try replace P2 := P2.below b1
     try replace N3 := N3.below b1
     have P1 := O1.mono hwd.size
     replace hwd := bT hwd b1
     clear O1 b1 hg1
     refine op_appR _ _ 24 24 rfl _ _ rfl rfl hrun ?_
     clear hrun
     generalize w1 = wd at *
     refine hK.out _ _ (by first | with_reducible exact dU PP _ hwd | exact dU PP _ (Below.refl _ _) | exact dU PP _ bdr | go_keep) (fun hHeld => ?_)
     clear hK K
     try simp only [Act.put, sA, sB, sC]
     refine wpAnyH_ready (rs := [11]) (by kernel_rfl) (by simp) ?_
     refine rC rfl (fun K hK => ?_) AllReadyH.nil
     obtain ⟨u1, w1, hrun, O1, b1⟩ := run_cpE (w := wd) 27 (some ⟨c2, 0, none⟩) (dU H2 wd (bT B0 hwd)) (by omega)
     obtain ⟨va, vc, rfl⟩ := ApR.slice elemE O1.1
     have hg1 := O1.ge
     try have S12 : (ss = [] ∨ es = [] ∨ bO (.slice ua ss.length uc) ≠ bO (.slice va es.length vc)) := sepB P1.bs.lt hg1
     try have S23 : (es = [] ∨ bO (.slice va es.length vc) ≠ ob) := sepC hg1 N3.lt
     try replace P1 := P1.below b1
     try replace N3 := N3.below b1
     have P2 := O1.mono hwd.size
     replace hwd := bT hwd b1
     clear O1 b1 hg1
     refine op_appR _ _ 27 27 rfl _ _ rfl rfl hrun ?_
     clear hrun
     generalize w1 = wd at *
     refine hK.out _ _ (by first | with_reducible exact dU PP _ hwd | exact dU PP _ (Below.refl _ _) | exact dU PP _ bdr | go_keep) (fun hHeld => ?_)
     clear hK K
     try simp only [Act.put, sA, sB, sC]
     refine tY 14 (v := ?_) rfl (by kernel_rfl) (.inl ⟨by rfl, ?_⟩) ‹_› ?_
     rotate_left 1
     ·intro w hSw
      (try dsimp only at hSw)
      first | (go_simp; done) | (go_simp; with_reducible rfl)
     try simp only [Act.put, sA, sB, sC]
     refine wpAnyH_ready (rs := [16]) (by kernel_rfl) (by simp) ?_
     refine rC rfl (fun K hK => ?_) AllReadyH.nil
     obtain ⟨z0, g0⟩ := N3.2 0 _ rfl
     obtain ⟨z1, g1⟩ := N3.2 1 _ rfl
     obtain ⟨z2, g2⟩ := N3.2 2 _ rfl
     obtain ⟨z3, g3⟩ := N3.2 3 _ rfl
     obtain ⟨z4, g4⟩ := N3.2 4 _ rfl
     obtain ⟨z5, g5⟩ := N3.2 5 _ rfl
     have hob : w0.heap.size ≤ ob := N3.1
     go_simp
     replace P1 := ((((((P1.put4 (b := ob) (o := 0) S13 (.int .i64 f0)).put4 (b := ob) (o := 1) S13 (.int .i64 f1)).put4 (b := ob) (o := 2) S13 (.slice ua ss.length uc)).put4 (b := ob) (o := 3) S13 (.slice va es.length vc)).put4 (b := ob) (o := 4) S13 (.bool f4)).put4 (b := ob) (o := 5) S13 (.slice none 0 0))
     replace P2 := ((((((P2.put4 (b := ob) (o := 0) S23 (.int .i64 f0)).put4 (b := ob) (o := 1) S23 (.int .i64 f1)).put4 (b := ob) (o := 2) S23 (.slice ua ss.length uc)).put4 (b := ob) (o := 3) S23 (.slice va es.length vc)).put4 (b := ob) (o := 4) S23 (.bool f4)).put4 (b := ob) (o := 5) S23 (.slice none 0 0))
     have N4 := ((((((N3.put 0 (.int .i64 f0)).put 1 (.int .i64 f1)).put 2 (.slice ua ss.length uc)).put 3 (.slice va es.length vc)).put 4 (.bool f4)).put 5 (.slice none 0 0))
     replace hwd := ((((((hwd.setCell (p := ⟨ob, 0, none⟩) hob (.int .i64 f0)).setCell (p := ⟨ob, 1, none⟩) hob (.int .i64 f1)).setCell (p := ⟨ob, 2, none⟩) hob (.slice ua ss.length uc)).setCell (p := ⟨ob, 3, none⟩) hob (.slice va es.length vc)).setCell (p := ⟨ob, 4, none⟩) hob (.bool f4)).setCell (p := ⟨ob, 5, none⟩) hob (.slice none 0 0))
     clear z0 g0 z1 g1 z2 g2 z3 g3 z4 g4 z5 g5 N3
     generalize ((((((wd.setCell ⟨ob, 0, none⟩ (.int .i64 f0)).setCell ⟨ob, 1, none⟩ (.int .i64 f1)).setCell ⟨ob, 2, none⟩ (.slice ua ss.length uc)).setCell ⟨ob, 3, none⟩ (.slice va es.length vc)).setCell ⟨ob, 4, none⟩ (.bool f4)).setCell ⟨ob, 5, none⟩ (.slice none 0 0)) = wd at *
     refine hK.out _ _ (by first | with_reducible exact dU PP _ hwd | exact dU PP _ (Below.refl _ _) | exact dU PP _ bdr | go_keep) (fun hHeld => ?_)
     clear hK K
     try simp only [Act.put, sA, sB, sC]
     refine wpAnyH_done (by kernel_rfl) ?_ _
     refine NoPanic.normal ?_
     go_wp2_with fail
     go_meet
     case rel => exact ⟨ob, ua, uc, va, vc, rfl, N4, P1, P2, S12, S13, S23, hwd⟩
   ·go_simp
    try replace P1 := P1.below (ba wd (.cells #[] 36))
    try replace P2 := P2.below (ba wd (.cells #[] 36))
    try replace N3 := N3.below (ba wd (.cells #[] 36))
    replace hwd := bT hwd (ba wd (.cells #[] 36))
    generalize wd.heap.size = c2 at *
    generalize wd.alloc (.cells #[] 36) = wd at *
    refine hK.out _ _ (by first | with_reducible exact dU PP _ hwd | exact dU PP _ (Below.refl _ _) | exact dU PP _ bdr | go_keep) (fun hHeld => ?_)
    clear hK K
    try simp only [Act.put, sA, sB, sC]
    refine wpAnyH_ready (rs := [4]) (by kernel_rfl) (by simp) ?_
    refine rC rfl (fun K hK => ?_) AllReadyH.nil
    go_simp
    try replace P1 := P1.below (ba wd (.cells #[] 3))
    try replace P2 := P2.below (ba wd (.cells #[] 3))
    try replace N3 := N3.below (ba wd (.cells #[] 3))
    replace hwd := bT hwd (ba wd (.cells #[] 3))
    generalize wd.heap.size = c1 at *
    generalize wd.alloc (.cells #[] 3) = wd at *
    refine hK.out _ _ (by first | with_reducible exact dU PP _ hwd | exact dU PP _ (Below.refl _ _) | exact dU PP _ bdr | go_keep) (fun hHeld => ?_)
    clear hK K
    try simp only [Act.put, sA, sB, sC]
    refine wpAnyH_ready (rs := [7]) (by kernel_rfl) (by simp) ?_
    refine rC rfl (fun K hK => ?_) AllReadyH.nil
    obtain ⟨u1, w1, hrun, O1, b1⟩ := run_cpN (w := wd) 24 (some ⟨c1, 0, none⟩) (.slice sa ss.length sc) ss (dU H1 wd (bT B0 hwd)) (by omega)
    obtain ⟨-, ua, uc, rfl, -, -⟩ := O1.bs
    have hg1 := O1.ge
    try have S12 : (ss = [] ∨ es = [] ∨ bO (.slice ua ss.length uc) ≠ bO (.slice va es.length vc)) := sepA P2.lt hg1
    try have S13 : (ss = [] ∨ bO (.slice ua ss.length uc) ≠ ob) := sepC hg1 N3.lt
    try replace P2 := P2.below b1
    try replace N3 := N3.below b1
    have P1 := O1.mono hwd.size
    replace hwd := bT hwd b1
    clear O1 b1 hg1
    refine op_appR _ _ 24 24 rfl _ _ rfl rfl hrun ?_
    clear hrun
    generalize w1 = wd at *
    refine hK.out _ _ (by first | with_reducible exact dU PP _ hwd | exact dU PP _ (Below.refl _ _) | exact dU PP _ bdr | go_keep) (fun hHeld => ?_)
    clear hK K
    try simp only [Act.put, sA, sB, sC]
    refine wpAnyH_ready (rs := [11]) (by kernel_rfl) (by simp) ?_
    refine rC rfl (fun K hK => ?_) AllReadyH.nil
    obtain ⟨u1, w1, hrun, O1, b1⟩ := run_cpE (w := wd) 27 (some ⟨c2, 0, none⟩) (dU H2 wd (bT B0 hwd)) (by omega)
    obtain ⟨va, vc, rfl⟩ := ApR.slice elemE O1.1
    have hg1 := O1.ge
    try have S12 : (ss = [] ∨ es = [] ∨ bO (.slice ua ss.length uc) ≠ bO (.slice va es.length vc)) := sepB P1.bs.lt hg1
    try have S23 : (es = [] ∨ bO (.slice va es.length vc) ≠ ob) := sepC hg1 N3.lt
    try replace P1 := P1.below b1
    try replace N3 := N3.below b1
    have P2 := O1.mono hwd.size
    replace hwd := bT hwd b1
    clear O1 b1 hg1
    refine op_appR _ _ 27 27 rfl _ _ rfl rfl hrun ?_
    clear hrun
    generalize w1 = wd at *
    refine hK.out _ _ (by first | with_reducible exact dU PP _ hwd | exact dU PP _ (Below.refl _ _) | exact dU PP _ bdr | go_keep) (fun hHeld => ?_)
    clear hK K
    try simp only [Act.put, sA, sB, sC]
    refine tY 14 (v := ?_) rfl (by kernel_rfl) (.inl ⟨by rfl, ?_⟩) ‹_› ?_
    rotate_left 1
    ·intro w hSw
     (try dsimp only at hSw)
     first | (go_simp; done) | (go_simp; with_reducible rfl)
    try simp only [Act.put, sA, sB, sC]
    refine wpAnyH_ready (rs := [16]) (by kernel_rfl) (by simp) ?_
    refine rC rfl (fun K hK => ?_) AllReadyH.nil
    obtain ⟨z0, g0⟩ := N3.2 0 _ rfl
    obtain ⟨z1, g1⟩ := N3.2 1 _ rfl
    obtain ⟨z2, g2⟩ := N3.2 2 _ rfl
    obtain ⟨z3, g3⟩ := N3.2 3 _ rfl
    obtain ⟨z4, g4⟩ := N3.2 4 _ rfl
    obtain ⟨z5, g5⟩ := N3.2 5 _ rfl
    have hob : w0.heap.size ≤ ob := N3.1
    go_simp
    replace P1 := ((((((P1.put4 (b := ob) (o := 0) S13 (.int .i64 f0)).put4 (b := ob) (o := 1) S13 (.int .i64 f1)).put4 (b := ob) (o := 2) S13 (.slice ua ss.length uc)).put4 (b := ob) (o := 3) S13 (.slice va es.length vc)).put4 (b := ob) (o := 4) S13 (.bool f4)).put4 (b := ob) (o := 5) S13 (.slice none 0 0))
    replace P2 := ((((((P2.put4 (b := ob) (o := 0) S23 (.int .i64 f0)).put4 (b := ob) (o := 1) S23 (.int .i64 f1)).put4 (b := ob) (o := 2) S23 (.slice ua ss.length uc)).put4 (b := ob) (o := 3) S23 (.slice va es.length vc)).put4 (b := ob) (o := 4) S23 (.bool f4)).put4 (b := ob) (o := 5) S23 (.slice none 0 0))
    have N4 := ((((((N3.put 0 (.int .i64 f0)).put 1 (.int .i64 f1)).put 2 (.slice ua ss.length uc)).put 3 (.slice va es.length vc)).put 4 (.bool f4)).put 5 (.slice none 0 0))
    replace hwd := ((((((hwd.setCell (p := ⟨ob, 0, none⟩) hob (.int .i64 f0)).setCell (p := ⟨ob, 1, none⟩) hob (.int .i64 f1)).setCell (p := ⟨ob, 2, none⟩) hob (.slice ua ss.length uc)).setCell (p := ⟨ob, 3, none⟩) hob (.slice va es.length vc)).setCell (p := ⟨ob, 4, none⟩) hob (.bool f4)).setCell (p := ⟨ob, 5, none⟩) hob (.slice none 0 0))
    clear z0 g0 z1 g1 z2 g2 z3 g3 z4 g4 z5 g5 N3
    generalize ((((((wd.setCell ⟨ob, 0, none⟩ (.int .i64 f0)).setCell ⟨ob, 1, none⟩ (.int .i64 f1)).setCell ⟨ob, 2, none⟩ (.slice ua ss.length uc)).setCell ⟨ob, 3, none⟩ (.slice va es.length vc)).setCell ⟨ob, 4, none⟩ (.bool f4)).setCell ⟨ob, 5, none⟩ (.slice none 0 0)) = wd at *
    refine hK.out _ _ (by first | with_reducible exact dU PP _ hwd | exact dU PP _ (Below.refl _ _) | exact dU PP _ bdr | go_keep) (fun hHeld => ?_)
    clear hK K
    try simp only [Act.put, sA, sB, sC]
    refine wpAnyH_done (by kernel_rfl) ?_ _
    refine NoPanic.normal ?_
    go_wp2_with fail
    go_meet
    case rel => exact ⟨ob, ua, uc, va, vc, rfl, N4, P1, P2, S12, S13, S23, hwd⟩
 case rest =>
  obtain ⟨ob, ua, uc, va, vc, rfl, N4, P1, P2, S12, S13, S23, bx⟩ := hcut
  generalize wc = wx at *
  have hobx : ob < wx.heap.size := N4.lt
  have hob : w0.heap.size ≤ ob := N4.1
  have P1l := P1.bs.lt
  have P2l := P2.lt
  have hsx := bx.size
  have L0 := LAp.nil wx wx.heap.size none
  clear PP bdr H1 H2
  go_wp2
  go_loopw [4] (fun q wr => ∃ (k : Nat) (qs : List (Nst (List Int))) (oa : Option Addr) (oc : Nat), q = .int .i64 (k : Int) ∧ k ≤ rs.length ∧ qs.length = k ∧ Hid (qs.map Nst.m = (rs.map Nst.m).take k) ∧ Hid (LAp wr wx.heap.size (.slice oa k oc) qs) ∧ Hid (BxZ wr w0.heap.size ob [.int .i64 f0, .int .i64 f1, .slice ua ss.length uc, .slice va es.length vc, .bool f4, .slice oa k oc]) ∧ Hid (OwnN wr w0.heap.size (.slice ua ss.length uc) ss) ∧ Hid (CpE wr w0.heap.size (.slice va es.length vc) es) ∧ wx.heap.size ≤ wr.heap.size ∧ Below w0.heap.size w0 wr) (fun q _ => rs.length - (intOf q).toNat)
  case atStart => exact ⟨0, [], none, 0, rfl, Nat.zero_le _, rfl, by simp [Hid], L0, N4, P1, P2, Nat.le_refl _, bx⟩
  case round =>
   clear N4 P1 P2 bx L0
   obtain ⟨k, qs, oa, oc, rfl, hk, hql, hqm, hL, hN, hP1, hP2, hsz, hb⟩ := hrel
   have x5 := dU HX _ hb 5 _ rfl
   by_cases hlt : (k : Int) < (rs.length : Int)
   ·have hkl : k < rs.length := by omega
    obtain ⟨b, off, rfl, hce⟩ := (dU HR w0 B0).ls hkl
    have EE := hce k hkl
    have HNk := dH fun W (hW : Below w0.heap.size w0 W) => dU HN W (bT B0 hW) k hkl
    have hyl := dU HLL k hkl
    have GM : Hid (∀ p : Nst (List Int), p.m = rs[k].m → (qs ++ [p]).map Nst.m = (rs.map Nst.m).take (k + 1)) := fun p hp => by
     rw [List.map_append, dU hqm, List.take_succ_eq_append_getElem (by simpa using hkl), List.getElem_map]
     simp [hp]
    generalize rs[k] = y at *
    obtain ⟨ya, yc, yn⟩ := y
    simp only at *
    have LL := dU hL
    have NB := dU hN
    have P1 := dU hP1
    have P2 := dU hP2
    have bd : Below wr.heap.size wr wr.drew := (Below.refl _ _).drew
    have PP : Hid (∀ W, Below w0.heap.size w0 W → W.cell? ⟨w.heap.size, 5, none⟩ = some (.slice (some ⟨b, off, none⟩) rs.length wz) ∧ W.cell? ⟨b, off + k, none⟩ = some (.slice ya yn.length yc)) := fun W hW => ⟨dU HX W hW 5 _ rfl, (hW.cell (p := ⟨b, off + k, none⟩) (dCell_lt EE)).trans EE⟩
    clear hL hN hP1 hP2 hqm hce
    go_wp2_with fail
    refine wp_region_noPanic ?_
    refine wp_region_held_drew (S := fun W => W.cell? ⟨w.heap.size, 5, none⟩ = some (.slice (some ⟨b, off, none⟩) rs.length wz) ∧ W.cell? ⟨b, off + k, none⟩ = some (.slice ya yn.length yc)) (by kernel_rfl) (by first | with_reducible exact dU PP _ hwd | exact dU PP _ hb | exact dU PP _ (bT hb bd) | go_keep) (fun hHeld => ?_)
    have hwd : Below w0.heap.size w0 wr.drew := bT hb bd
    replace LL := LL.below bd
    replace NB := NB.below bd
    replace P1 := P1.below bd
    replace P2 := P2.below bd
    have hsd : wx.heap.size ≤ wr.drew.heap.size := hsz
    clear hsz
    have hsz := hsd
    clear hsd
    generalize wr.drew = wd at *
    refine tY 0 (v := ?_) rfl (by kernel_rfl) (.inl ⟨by rfl, ?_⟩) ‹_› ?_
    rotate_left 1
    ·intro w hSw
     (try dsimp only at hSw)
     first | (go_simp; done) | (go_simp; with_reducible rfl)
    try simp only [Act.put, sA, sB, sC]
    refine tY 3 (v := ?_) rfl (by kernel_rfl) (.inl ⟨by rfl, ?_⟩) ‹_› ?_
    rotate_left 1
    ·intro w hSw
     (try dsimp only at hSw)
     first | (go_simp; done) | (go_simp; with_reducible rfl)
    try simp only [Act.put, sA, sB, sC]
    refine tY 4 (v := ?_) rfl (by kernel_rfl) (.inl ⟨by rfl, ?_⟩) ‹_› ?_
    rotate_left 1
    ·intro w hSw
     (try dsimp only at hSw)
     first | (go_simp; done) | (go_simp; with_reducible rfl)
    try simp only [Act.put, sA, sB, sC]
    refine tY 5 (v := ?_) rfl (by kernel_rfl) (.inl ⟨by rfl, ?_⟩) ‹_› ?_
    rotate_left 1
    ·intro w hSw
     (try dsimp only at hSw)
     first | (go_simp; done) | (go_simp; with_reducible rfl)
    try simp only [Act.put, sA, sB, sC]
    refine tY 6 (v := ?_) rfl (by kernel_rfl) (.inl ⟨by rfl, ?_⟩) ‹_› ?_
    rotate_left 1
    ·intro w hSw
     (try dsimp only at hSw)
     first | (go_simp; done) | (go_simp; with_reducible rfl)
    try simp only [Act.put, sA, sB, sC]
    refine tY 7 (v := ?_) rfl (by kernel_rfl) (.inl ⟨by rfl, ?_⟩) ‹_› ?_
    rotate_left 1
    ·intro w hSw
     (try dsimp only at hSw)
     first | (go_simp; done) | (go_simp; with_reducible rfl)
    try simp only [Act.put, sA, sB, sC]
    refine wpAnyH_ready (rs := [1, 2]) (by kernel_rfl) (by simp) ?_
    refine rC rfl (fun K hK => ?_) (rC rfl (fun K hK => ?_) AllReadyH.nil)
    ·have o5 := (NB.2 5 _ rfl).1
     go_simp
     clear o5
     refine hK.out _ _ (by first | with_reducible exact dU PP _ hwd | exact dU PP _ hb | exact dU PP _ (bT hb bd) | go_keep) (fun hHeld => ?_)
     clear hK K
     try simp only [Act.put, sA, sB, sC]
     refine wpAnyH_ready (rs := [2]) (by kernel_rfl) (by simp) ?_
     refine rC rfl (fun K hK => ?_) AllReadyH.nil
     go_simp
     have hs2 : wx.heap.size ≤ (wd.alloc (.cells #[] 3)).heap.size := by simp; omega
     replace LL := LL.below (ba wd (.cells #[] 3))
     replace NB := NB.below (ba wd (.cells #[] 3))
     replace P1 := P1.below (ba wd (.cells #[] 3))
     replace P2 := P2.below (ba wd (.cells #[] 3))
     try replace Q8 := Q8.below (ba wd (.cells #[] 3))
     replace hwd := bT hwd (ba wd (.cells #[] 3))
     replace hsz := hs2
     clear hs2
     generalize wd.heap.size = c1 at *
     generalize wd.alloc (.cells #[] 3) = wd at *
     refine hK.out _ _ (by first | with_reducible exact dU PP _ hwd | exact dU PP _ hb | exact dU PP _ (bT hb bd) | go_keep) (fun hHeld => ?_)
     clear hK K
     try simp only [Act.put, sA, sB, sC]
     refine wpAnyH_ready (rs := [8]) (by kernel_rfl) (by simp) ?_
     refine rC rfl (fun K hK => ?_) AllReadyH.nil
     obtain ⟨u1, w1, hrun, Q8, b1⟩ := run_cpN (w := wd) 24 (some ⟨c1, 0, none⟩) (.slice ya yn.length yc) yn (dU HNk wd hwd) (by omega)
     obtain ⟨-, qa, qc, rfl, -, -⟩ := Q8.bs
     have HF : Hid (∀ q ∈ qs, q.m = [] ∨ yn = [] ∨ bO (Sv idL q) ≠ bO (.slice qa yn.length qc)) := fun q hq => sepB (LL.2.1 q hq).bs.lt Q8.ge
     have HT : Hid (yn = [] ∨ touch (.slice oa k oc) ≠ some (bO (.slice qa yn.length qc))) := by
      rcases Q8.ge with h | h
      ·exact .inl h
      ·refine .inr fun e => ?_
       have := (LL.1.touched elemL e).2
       omega
     replace LL := LL.below b1
     replace NB := NB.below b1
     replace P1 := P1.below b1
     replace P2 := P2.below b1
     replace Q8 := Q8.mono hsz
     replace hsz := Nat.le_trans hsz b1.size
     replace hwd := bT hwd b1
     clear b1
     refine op_appR _ _ 24 24 rfl _ _ rfl rfl hrun ?_
     clear hrun
     generalize w1 = wd at *
     refine hK.out _ _ (by first | with_reducible exact dU PP _ hwd | exact dU PP _ hb | exact dU PP _ (bT hb bd) | go_keep) (fun hHeld => ?_)
     clear hK K
     try simp only [Act.put, sA, sB, sC]
     refine wpAnyH_ready (rs := [9]) (by kernel_rfl) (by simp) ?_
     refine rC rfl (fun K hK => ?_) AllReadyH.nil
     go_simp
     have RS := rwL_one wd ⟨qa, qc, yn⟩ 24 1 (by omega)
     have hs2 : wx.heap.size ≤ (wd.alloc (.cells #[.slice qa yn.length qc] 24)).heap.size := by simp; omega
     replace LL := LL.below (ba wd (.cells #[.slice qa yn.length qc] 24))
     replace NB := NB.below (ba wd (.cells #[.slice qa yn.length qc] 24))
     replace P1 := P1.below (ba wd (.cells #[.slice qa yn.length qc] 24))
     replace P2 := P2.below (ba wd (.cells #[.slice qa yn.length qc] 24))
     try replace Q8 := Q8.below (ba wd (.cells #[.slice qa yn.length qc] 24))
     replace hwd := bT hwd (ba wd (.cells #[.slice qa yn.length qc] 24))
     replace hsz := hs2
     clear hs2
     simp only at RS
     generalize wd.heap.size = c9 at *
     generalize wd.alloc (.cells #[.slice qa yn.length qc] 24) = wd at *
     refine hK.out _ _ (by first | with_reducible exact dU PP _ hwd | exact dU PP _ hb | exact dU PP _ (bT hb bd) | go_keep) (fun hHeld => ?_)
     clear hK K
     try simp only [Act.put, sA, sB, sC]
     refine wpAnyH_ready (rs := [10]) (by kernel_rfl) (by simp) ?_
     refine rC rfl (fun K hK => ?_) AllReadyH.nil
     obtain ⟨u2, w1, hrun, A1, g1, t1⟩ := run_apR elemL 28 LL.1 (.slice (some ⟨c9, 0, none⟩) 1 1) RS (by simp; omega) (by simp; omega) hsz
     have tb : ∀ j, touch (.slice oa k oc) = some j → wx.heap.size ≤ j := fun j hj => (LL.1.touched elemL hj).1
     obtain ⟨na, nc, rfl⟩ := ApR.slice elemL A1
     have el : (qs ++ [(⟨qa, qc, yn⟩ : Nst (List Int))]).length = k + 1 := by simp [hql]
     rw [el] at hrun A1 t1
     have L2 := LAp.snoc (p := ⟨qa, qc, yn⟩) LL Q8 (Nat.le_refl _) (dU HF) (dU HT) A1 g1 t1
     replace NB := NB.grown g1 (fun e => by have := tb _ e; omega)
     replace P1 := P1.grown g1 (by
      rcases P1l with h | h
      ·exact .inl h
      ·exact .inr fun e => by have := tb _ e; omega)
     replace P2 := P2.grown4 g1 (by
      rcases P2l with h | h
      ·exact .inl h
      ·exact .inr fun e => by have := tb _ e; omega)
     have hw1 := hwd.grown g1 hwd.size (fun j hj => by have := tb _ hj; omega)
     replace hsz := Nat.le_trans hsz g1.size
     clear LL RS A1 g1 t1 tb Q8 HF HT hwd
     have LL := L2
     have hwd := hw1
     clear L2 hw1
     refine op_appR _ _ 28 28 rfl _ _ rfl rfl hrun ?_
     clear hrun
     generalize w1 = wd at *
     refine hK.out _ _ (by first | with_reducible exact dU PP _ hwd | exact dU PP _ hb | exact dU PP _ (bT hb bd) | go_keep) (fun hHeld => ?_)
     clear hK K
     try simp only [Act.put, sA, sB, sC]
     refine tY 11 (v := ?_) rfl (by kernel_rfl) (.inl ⟨by rfl, ?_⟩) ‹_› ?_
     rotate_left 1
     ·intro w hSw
      (try dsimp only at hSw)
      first | (go_simp; done) | (go_simp; with_reducible rfl)
     try simp only [Act.put, sA, sB, sC]
     refine wpAnyH_ready (rs := [12]) (by kernel_rfl) (by simp) ?_
     refine rC rfl (fun K hK => ?_) AllReadyH.nil
     obtain ⟨z5, g5⟩ := NB.2 5 _ rfl
     go_simp
     replace NB := NB.put 5 (.slice na (k + 1) nc)
     replace P1 := P1.put4 (b := ob) (o := 5) S13 (.slice na (k + 1) nc)
     replace P2 := P2.put4 (b := ob) (o := 5) S23 (.slice na (k + 1) nc)
     replace LL := LL.far (b := ob) (o := 5) hobx (.slice na (k + 1) nc)
     replace hwd := hwd.setCell (p := ⟨ob, 5, none⟩) hob (.slice na (k + 1) nc)
     have hs2 : wx.heap.size ≤ (wd.setCell ⟨ob, 5, none⟩ (.slice na (k + 1) nc)).heap.size := by simpa using hsz
     replace hsz := hs2
     clear z5 g5 hs2
     generalize wd.setCell ⟨ob, 5, none⟩ (.slice na (k + 1) nc) = wd at *
     refine hK.out _ _ (by first | with_reducible exact dU PP _ hwd | exact dU PP _ hb | exact dU PP _ (bT hb bd) | go_keep) (fun hHeld => ?_)
     clear hK K
     try simp only [Act.put, sA, sB, sC]
     refine wpAnyH_done (by kernel_rfl) ?_ _
     refine NoPanic.normal ?_
     have G1 := dH (dU GM ⟨qa, qc, yn⟩ rfl)
     have G2 := dH LL
     have G3 := dH NB
     have G4 := dH P1
     have G5 := dH P2
     clear LL NB P1 P2 GM
     go_wp2_with fail
     go_roundw
     case rel => exact ⟨k + 1, _, na, nc, by go_num, by omega, el, G1, G2, G3, G4, G5, hsz, hwd⟩
     case measure => simp [intOf]; omega
    ·go_simp
     have hs2 : wx.heap.size ≤ (wd.alloc (.cells #[] 3)).heap.size := by simp; omega
     replace LL := LL.below (ba wd (.cells #[] 3))
     replace NB := NB.below (ba wd (.cells #[] 3))
     replace P1 := P1.below (ba wd (.cells #[] 3))
     replace P2 := P2.below (ba wd (.cells #[] 3))
     try replace Q8 := Q8.below (ba wd (.cells #[] 3))
     replace hwd := bT hwd (ba wd (.cells #[] 3))
     replace hsz := hs2
     clear hs2
     generalize wd.heap.size = c1 at *
     generalize wd.alloc (.cells #[] 3) = wd at *
     refine hK.out _ _ (by first | with_reducible exact dU PP _ hwd | exact dU PP _ hb | exact dU PP _ (bT hb bd) | go_keep) (fun hHeld => ?_)
     clear hK K
     try simp only [Act.put, sA, sB, sC]
     refine wpAnyH_ready (rs := [1, 8]) (by kernel_rfl) (by simp) ?_
     refine rC rfl (fun K hK => ?_) (rC rfl (fun K hK => ?_) AllReadyH.nil)
     ·have o5 := (NB.2 5 _ rfl).1
      go_simp
      clear o5
      refine hK.out _ _ (by first | with_reducible exact dU PP _ hwd | exact dU PP _ hb | exact dU PP _ (bT hb bd) | go_keep) (fun hHeld => ?_)
      clear hK K
      try simp only [Act.put, sA, sB, sC]
      refine wpAnyH_ready (rs := [8]) (by kernel_rfl) (by simp) ?_
      refine rC rfl (fun K hK => ?_) AllReadyH.nil
      obtain ⟨u1, w1, hrun, Q8, b1⟩ := run_cpN (w := wd) 24 (some ⟨c1, 0, none⟩) (.slice ya yn.length yc) yn (dU HNk wd hwd) (by omega)
      obtain ⟨-, qa, qc, rfl, -, -⟩ := Q8.bs
      have HF : Hid (∀ q ∈ qs, q.m = [] ∨ yn = [] ∨ bO (Sv idL q) ≠ bO (.slice qa yn.length qc)) := fun q hq => sepB (LL.2.1 q hq).bs.lt Q8.ge
      have HT : Hid (yn = [] ∨ touch (.slice oa k oc) ≠ some (bO (.slice qa yn.length qc))) := by
       rcases Q8.ge with h | h
       ·exact .inl h
       ·refine .inr fun e => ?_
        have := (LL.1.touched elemL e).2
        omega
      replace LL := LL.below b1
      replace NB := NB.below b1
      replace P1 := P1.below b1
      replace P2 := P2.below b1
      replace Q8 := Q8.mono hsz
      replace hsz := Nat.le_trans hsz b1.size
      replace hwd := bT hwd b1
      clear b1
      refine op_appR _ _ 24 24 rfl _ _ rfl rfl hrun ?_
      clear hrun
      generalize w1 = wd at *
      refine hK.out _ _ (by first | with_reducible exact dU PP _ hwd | exact dU PP _ hb | exact dU PP _ (bT hb bd) | go_keep) (fun hHeld => ?_)
      clear hK K
      try simp only [Act.put, sA, sB, sC]
      refine wpAnyH_ready (rs := [9]) (by kernel_rfl) (by simp) ?_
      refine rC rfl (fun K hK => ?_) AllReadyH.nil
      go_simp
      have RS := rwL_one wd ⟨qa, qc, yn⟩ 24 1 (by omega)
      have hs2 : wx.heap.size ≤ (wd.alloc (.cells #[.slice qa yn.length qc] 24)).heap.size := by simp; omega
      replace LL := LL.below (ba wd (.cells #[.slice qa yn.length qc] 24))
      replace NB := NB.below (ba wd (.cells #[.slice qa yn.length qc] 24))
      replace P1 := P1.below (ba wd (.cells #[.slice qa yn.length qc] 24))
      replace P2 := P2.below (ba wd (.cells #[.slice qa yn.length qc] 24))
      try replace Q8 := Q8.below (ba wd (.cells #[.slice qa yn.length qc] 24))
      replace hwd := bT hwd (ba wd (.cells #[.slice qa yn.length qc] 24))
      replace hsz := hs2
      clear hs2
      simp only at RS
      generalize wd.heap.size = c9 at *
      generalize wd.alloc (.cells #[.slice qa yn.length qc] 24) = wd at *
      refine hK.out _ _ (by first | with_reducible exact dU PP _ hwd | exact dU PP _ hb | exact dU PP _ (bT hb bd) | go_keep) (fun hHeld => ?_)
      clear hK K
      try simp only [Act.put, sA, sB, sC]
      refine wpAnyH_ready (rs := [10]) (by kernel_rfl) (by simp) ?_
      refine rC rfl (fun K hK => ?_) AllReadyH.nil
      obtain ⟨u2, w1, hrun, A1, g1, t1⟩ := run_apR elemL 28 LL.1 (.slice (some ⟨c9, 0, none⟩) 1 1) RS (by simp; omega) (by simp; omega) hsz
      have tb : ∀ j, touch (.slice oa k oc) = some j → wx.heap.size ≤ j := fun j hj => (LL.1.touched elemL hj).1
      obtain ⟨na, nc, rfl⟩ := ApR.slice elemL A1
      have el : (qs ++ [(⟨qa, qc, yn⟩ : Nst (List Int))]).length = k + 1 := by simp [hql]
      rw [el] at hrun A1 t1
      have L2 := LAp.snoc (p := ⟨qa, qc, yn⟩) LL Q8 (Nat.le_refl _) (dU HF) (dU HT) A1 g1 t1
      replace NB := NB.grown g1 (fun e => by have := tb _ e; omega)
      replace P1 := P1.grown g1 (by
       rcases P1l with h | h
       ·exact .inl h
       ·exact .inr fun e => by have := tb _ e; omega)
      replace P2 := P2.grown4 g1 (by
       rcases P2l with h | h
       ·exact .inl h
       ·exact .inr fun e => by have := tb _ e; omega)
      have hw1 := hwd.grown g1 hwd.size (fun j hj => by have := tb _ hj; omega)
      replace hsz := Nat.le_trans hsz g1.size
      clear LL RS A1 g1 t1 tb Q8 HF HT hwd
      have LL := L2
      have hwd := hw1
      clear L2 hw1
      refine op_appR _ _ 28 28 rfl _ _ rfl rfl hrun ?_
      clear hrun
      generalize w1 = wd at *
      refine hK.out _ _ (by first | with_reducible exact dU PP _ hwd | exact dU PP _ hb | exact dU PP _ (bT hb bd) | go_keep) (fun hHeld => ?_)
      clear hK K
      try simp only [Act.put, sA, sB, sC]
      refine tY 11 (v := ?_) rfl (by kernel_rfl) (.inl ⟨by rfl, ?_⟩) ‹_› ?_
      rotate_left 1
      ·intro w hSw
       (try dsimp only at hSw)
       first | (go_simp; done) | (go_simp; with_reducible rfl)
      try simp only [Act.put, sA, sB, sC]
      refine wpAnyH_ready (rs := [12]) (by kernel_rfl) (by simp) ?_
      refine rC rfl (fun K hK => ?_) AllReadyH.nil
      obtain ⟨z5, g5⟩ := NB.2 5 _ rfl
      go_simp
      replace NB := NB.put 5 (.slice na (k + 1) nc)
      replace P1 := P1.put4 (b := ob) (o := 5) S13 (.slice na (k + 1) nc)
      replace P2 := P2.put4 (b := ob) (o := 5) S23 (.slice na (k + 1) nc)
      replace LL := LL.far (b := ob) (o := 5) hobx (.slice na (k + 1) nc)
      replace hwd := hwd.setCell (p := ⟨ob, 5, none⟩) hob (.slice na (k + 1) nc)
      have hs2 : wx.heap.size ≤ (wd.setCell ⟨ob, 5, none⟩ (.slice na (k + 1) nc)).heap.size := by simpa using hsz
      replace hsz := hs2
      clear z5 g5 hs2
      generalize wd.setCell ⟨ob, 5, none⟩ (.slice na (k + 1) nc) = wd at *
      refine hK.out _ _ (by first | with_reducible exact dU PP _ hwd | exact dU PP _ hb | exact dU PP _ (bT hb bd) | go_keep) (fun hHeld => ?_)
      clear hK K
      try simp only [Act.put, sA, sB, sC]
      refine wpAnyH_done (by kernel_rfl) ?_ _
      refine NoPanic.normal ?_
      have G1 := dH (dU GM ⟨qa, qc, yn⟩ rfl)
      have G2 := dH LL
      have G3 := dH NB
      have G4 := dH P1
      have G5 := dH P2
      clear LL NB P1 P2 GM
      go_wp2_with fail
      go_roundw
      case rel => exact ⟨k + 1, _, na, nc, by go_num, by omega, el, G1, G2, G3, G4, G5, hsz, hwd⟩
      case measure => simp [intOf]; omega
     ·obtain ⟨u1, w1, hrun, Q8, b1⟩ := run_cpN (w := wd) 24 (some ⟨c1, 0, none⟩) (.slice ya yn.length yc) yn (dU HNk wd hwd) (by omega)
      obtain ⟨-, qa, qc, rfl, -, -⟩ := Q8.bs
      have HF : Hid (∀ q ∈ qs, q.m = [] ∨ yn = [] ∨ bO (Sv idL q) ≠ bO (.slice qa yn.length qc)) := fun q hq => sepB (LL.2.1 q hq).bs.lt Q8.ge
      have HT : Hid (yn = [] ∨ touch (.slice oa k oc) ≠ some (bO (.slice qa yn.length qc))) := by
       rcases Q8.ge with h | h
       ·exact .inl h
       ·refine .inr fun e => ?_
        have := (LL.1.touched elemL e).2
        omega
      replace LL := LL.below b1
      replace NB := NB.below b1
      replace P1 := P1.below b1
      replace P2 := P2.below b1
      replace Q8 := Q8.mono hsz
      replace hsz := Nat.le_trans hsz b1.size
      replace hwd := bT hwd b1
      clear b1
      refine op_appR _ _ 24 24 rfl _ _ rfl rfl hrun ?_
      clear hrun
      generalize w1 = wd at *
      refine hK.out _ _ (by first | with_reducible exact dU PP _ hwd | exact dU PP _ hb | exact dU PP _ (bT hb bd) | go_keep) (fun hHeld => ?_)
      clear hK K
      try simp only [Act.put, sA, sB, sC]
      refine wpAnyH_ready (rs := [1, 9]) (by kernel_rfl) (by simp) ?_
      refine rC rfl (fun K hK => ?_) (rC rfl (fun K hK => ?_) AllReadyH.nil)
      ·have o5 := (NB.2 5 _ rfl).1
       go_simp
       clear o5
       refine hK.out _ _ (by first | with_reducible exact dU PP _ hwd | exact dU PP _ hb | exact dU PP _ (bT hb bd) | go_keep) (fun hHeld => ?_)
       clear hK K
       try simp only [Act.put, sA, sB, sC]
       refine wpAnyH_ready (rs := [9]) (by kernel_rfl) (by simp) ?_
       refine rC rfl (fun K hK => ?_) AllReadyH.nil
       go_simp
       have RS := rwL_one wd ⟨qa, qc, yn⟩ 24 1 (by omega)
       have hs2 : wx.heap.size ≤ (wd.alloc (.cells #[.slice qa yn.length qc] 24)).heap.size := by simp; omega
       replace LL := LL.below (ba wd (.cells #[.slice qa yn.length qc] 24))
       replace NB := NB.below (ba wd (.cells #[.slice qa yn.length qc] 24))
       replace P1 := P1.below (ba wd (.cells #[.slice qa yn.length qc] 24))
       replace P2 := P2.below (ba wd (.cells #[.slice qa yn.length qc] 24))
       try replace Q8 := Q8.below (ba wd (.cells #[.slice qa yn.length qc] 24))
       replace hwd := bT hwd (ba wd (.cells #[.slice qa yn.length qc] 24))
       replace hsz := hs2
       clear hs2
       simp only at RS
       generalize wd.heap.size = c9 at *
       generalize wd.alloc (.cells #[.slice qa yn.length qc] 24) = wd at *
       refine hK.out _ _ (by first | with_reducible exact dU PP _ hwd | exact dU PP _ hb | exact dU PP _ (bT hb bd) | go_keep) (fun hHeld => ?_)
       clear hK K
       try simp only [Act.put, sA, sB, sC]
       refine wpAnyH_ready (rs := [10]) (by kernel_rfl) (by simp) ?_
       refine rC rfl (fun K hK => ?_) AllReadyH.nil
       obtain ⟨u2, w1, hrun, A1, g1, t1⟩ := run_apR elemL 28 LL.1 (.slice (some ⟨c9, 0, none⟩) 1 1) RS (by simp; omega) (by simp; omega) hsz
       have tb : ∀ j, touch (.slice oa k oc) = some j → wx.heap.size ≤ j := fun j hj => (LL.1.touched elemL hj).1
       obtain ⟨na, nc, rfl⟩ := ApR.slice elemL A1
       have el : (qs ++ [(⟨qa, qc, yn⟩ : Nst (List Int))]).length = k + 1 := by simp [hql]
       rw [el] at hrun A1 t1
       have L2 := LAp.snoc (p := ⟨qa, qc, yn⟩) LL Q8 (Nat.le_refl _) (dU HF) (dU HT) A1 g1 t1
       replace NB := NB.grown g1 (fun e => by have := tb _ e; omega)
       replace P1 := P1.grown g1 (by
        rcases P1l with h | h
        ·exact .inl h
        ·exact .inr fun e => by have := tb _ e; omega)
       replace P2 := P2.grown4 g1 (by
        rcases P2l with h | h
        ·exact .inl h
        ·exact .inr fun e => by have := tb _ e; omega)
       have hw1 := hwd.grown g1 hwd.size (fun j hj => by have := tb _ hj; omega)
       replace hsz := Nat.le_trans hsz g1.size
       clear LL RS A1 g1 t1 tb Q8 HF HT hwd
       have LL := L2
       have hwd := hw1
       clear L2 hw1
       refine op_appR _ _ 28 28 rfl _ _ rfl rfl hrun ?_
       clear hrun
       generalize w1 = wd at *
       refine hK.out _ _ (by first | with_reducible exact dU PP _ hwd | exact dU PP _ hb | exact dU PP _ (bT hb bd) | go_keep) (fun hHeld => ?_)
       clear hK K
       try simp only [Act.put, sA, sB, sC]
       refine tY 11 (v := ?_) rfl (by kernel_rfl) (.inl ⟨by rfl, ?_⟩) ‹_› ?_
       rotate_left 1
       ·intro w hSw
        (try dsimp only at hSw)
        first | (go_simp; done) | (go_simp; with_reducible rfl)
       try simp only [Act.put, sA, sB, sC]
       refine wpAnyH_ready (rs := [12]) (by kernel_rfl) (by simp) ?_
       refine rC rfl (fun K hK => ?_) AllReadyH.nil
       obtain ⟨z5, g5⟩ := NB.2 5 _ rfl
       go_simp
       replace NB := NB.put 5 (.slice na (k + 1) nc)
       replace P1 := P1.put4 (b := ob) (o := 5) S13 (.slice na (k + 1) nc)
       replace P2 := P2.put4 (b := ob) (o := 5) S23 (.slice na (k + 1) nc)
       replace LL := LL.far (b := ob) (o := 5) hobx (.slice na (k + 1) nc)
       replace hwd := hwd.setCell (p := ⟨ob, 5, none⟩) hob (.slice na (k + 1) nc)
       have hs2 : wx.heap.size ≤ (wd.setCell ⟨ob, 5, none⟩ (.slice na (k + 1) nc)).heap.size := by simpa using hsz
       replace hsz := hs2
       clear z5 g5 hs2
       generalize wd.setCell ⟨ob, 5, none⟩ (.slice na (k + 1) nc) = wd at *
       refine hK.out _ _ (by first | with_reducible exact dU PP _ hwd | exact dU PP _ hb | exact dU PP _ (bT hb bd) | go_keep) (fun hHeld => ?_)
       clear hK K
       try simp only [Act.put, sA, sB, sC]
       refine wpAnyH_done (by kernel_rfl) ?_ _
       refine NoPanic.normal ?_
       have G1 := dH (dU GM ⟨qa, qc, yn⟩ rfl)
       have G2 := dH LL
       have G3 := dH NB
       have G4 := dH P1
       have G5 := dH P2
       clear LL NB P1 P2 GM
       go_wp2_with fail
       go_roundw
       case rel => exact ⟨k + 1, _, na, nc, by go_num, by omega, el, G1, G2, G3, G4, G5, hsz, hwd⟩
       case measure => simp [intOf]; omega
      ·go_simp
       have RS := rwL_one wd ⟨qa, qc, yn⟩ 24 1 (by omega)
       have hs2 : wx.heap.size ≤ (wd.alloc (.cells #[.slice qa yn.length qc] 24)).heap.size := by simp; omega
       replace LL := LL.below (ba wd (.cells #[.slice qa yn.length qc] 24))
       replace NB := NB.below (ba wd (.cells #[.slice qa yn.length qc] 24))
       replace P1 := P1.below (ba wd (.cells #[.slice qa yn.length qc] 24))
       replace P2 := P2.below (ba wd (.cells #[.slice qa yn.length qc] 24))
       try replace Q8 := Q8.below (ba wd (.cells #[.slice qa yn.length qc] 24))
       replace hwd := bT hwd (ba wd (.cells #[.slice qa yn.length qc] 24))
       replace hsz := hs2
       clear hs2
       simp only at RS
       generalize wd.heap.size = c9 at *
       generalize wd.alloc (.cells #[.slice qa yn.length qc] 24) = wd at *
       refine hK.out _ _ (by first | with_reducible exact dU PP _ hwd | exact dU PP _ hb | exact dU PP _ (bT hb bd) | go_keep) (fun hHeld => ?_)
       clear hK K
       try simp only [Act.put, sA, sB, sC]
       refine wpAnyH_ready (rs := [1]) (by kernel_rfl) (by simp) ?_
       refine rC rfl (fun K hK => ?_) AllReadyH.nil
       have o5 := (NB.2 5 _ rfl).1
       go_simp
       clear o5
       refine hK.out _ _ (by first | with_reducible exact dU PP _ hwd | exact dU PP _ hb | exact dU PP _ (bT hb bd) | go_keep) (fun hHeld => ?_)
       clear hK K
       try simp only [Act.put, sA, sB, sC]
       refine wpAnyH_ready (rs := [10]) (by kernel_rfl) (by simp) ?_
       refine rC rfl (fun K hK => ?_) AllReadyH.nil
       obtain ⟨u2, w1, hrun, A1, g1, t1⟩ := run_apR elemL 28 LL.1 (.slice (some ⟨c9, 0, none⟩) 1 1) RS (by simp; omega) (by simp; omega) hsz
       have tb : ∀ j, touch (.slice oa k oc) = some j → wx.heap.size ≤ j := fun j hj => (LL.1.touched elemL hj).1
       obtain ⟨na, nc, rfl⟩ := ApR.slice elemL A1
       have el : (qs ++ [(⟨qa, qc, yn⟩ : Nst (List Int))]).length = k + 1 := by simp [hql]
       rw [el] at hrun A1 t1
       have L2 := LAp.snoc (p := ⟨qa, qc, yn⟩) LL Q8 (Nat.le_refl _) (dU HF) (dU HT) A1 g1 t1
       replace NB := NB.grown g1 (fun e => by have := tb _ e; omega)
       replace P1 := P1.grown g1 (by
        rcases P1l with h | h
        ·exact .inl h
        ·exact .inr fun e => by have := tb _ e; omega)
       replace P2 := P2.grown4 g1 (by
        rcases P2l with h | h
        ·exact .inl h
        ·exact .inr fun e => by have := tb _ e; omega)
       have hw1 := hwd.grown g1 hwd.size (fun j hj => by have := tb _ hj; omega)
       replace hsz := Nat.le_trans hsz g1.size
       clear LL RS A1 g1 t1 tb Q8 HF HT hwd
       have LL := L2
       have hwd := hw1
       clear L2 hw1
       refine op_appR _ _ 28 28 rfl _ _ rfl rfl hrun ?_
       clear hrun
       generalize w1 = wd at *
       refine hK.out _ _ (by first | with_reducible exact dU PP _ hwd | exact dU PP _ hb | exact dU PP _ (bT hb bd) | go_keep) (fun hHeld => ?_)
       clear hK K
       try simp only [Act.put, sA, sB, sC]
       refine tY 11 (v := ?_) rfl (by kernel_rfl) (.inl ⟨by rfl, ?_⟩) ‹_› ?_
       rotate_left 1
       ·intro w hSw
        (try dsimp only at hSw)
        first | (go_simp; done) | (go_simp; with_reducible rfl)
       try simp only [Act.put, sA, sB, sC]
       refine wpAnyH_ready (rs := [12]) (by kernel_rfl) (by simp) ?_
       refine rC rfl (fun K hK => ?_) AllReadyH.nil
       obtain ⟨z5, g5⟩ := NB.2 5 _ rfl
       go_simp
       replace NB := NB.put 5 (.slice na (k + 1) nc)
       replace P1 := P1.put4 (b := ob) (o := 5) S13 (.slice na (k + 1) nc)
       replace P2 := P2.put4 (b := ob) (o := 5) S23 (.slice na (k + 1) nc)
       replace LL := LL.far (b := ob) (o := 5) hobx (.slice na (k + 1) nc)
       replace hwd := hwd.setCell (p := ⟨ob, 5, none⟩) hob (.slice na (k + 1) nc)
       have hs2 : wx.heap.size ≤ (wd.setCell ⟨ob, 5, none⟩ (.slice na (k + 1) nc)).heap.size := by simpa using hsz
       replace hsz := hs2
       clear z5 g5 hs2
       generalize wd.setCell ⟨ob, 5, none⟩ (.slice na (k + 1) nc) = wd at *
       refine hK.out _ _ (by first | with_reducible exact dU PP _ hwd | exact dU PP _ hb | exact dU PP _ (bT hb bd) | go_keep) (fun hHeld => ?_)
       clear hK K
       try simp only [Act.put, sA, sB, sC]
       refine wpAnyH_done (by kernel_rfl) ?_ _
       refine NoPanic.normal ?_
       have G1 := dH (dU GM ⟨qa, qc, yn⟩ rfl)
       have G2 := dH LL
       have G3 := dH NB
       have G4 := dH P1
       have G5 := dH P2
       clear LL NB P1 P2 GM
       go_wp2_with fail
       go_roundw
       case rel => exact ⟨k + 1, _, na, nc, by go_num, by omega, el, G1, G2, G3, G4, G5, hsz, hwd⟩
       case measure => simp [intOf]; omega
   ·have ek : k = rs.length := by omega
    subst ek
    have LL := dU hL
    have NB := dU hN
    have P1 := dU hP1
    have P2 := dU hP2
    have YB := dU HY wr hb
    have BB := bT B0 hb
    have eqm : qs.map Nst.m = rs.map Nst.m := by rw [dU hqm, List.take_of_length_le (by simp)]
    have hyb : w.heap.size + 1 < w0.heap.size := hy0
    obtain ⟨o0, -⟩ := NB.2 0 _ rfl
    obtain ⟨o1, -⟩ := NB.2 1 _ rfl
    obtain ⟨o2, -⟩ := NB.2 2 _ rfl
    obtain ⟨o3, -⟩ := NB.2 3 _ rfl
    obtain ⟨o4, -⟩ := NB.2 4 _ rfl
    obtain ⟨o5, -⟩ := NB.2 5 _ rfl
    obtain ⟨z0, g0⟩ := YB.2 0 _ rfl
    obtain ⟨z1, g1⟩ := YB.2 1 _ rfl
    obtain ⟨z2, g2⟩ := YB.2 2 _ rfl
    obtain ⟨z3, g3⟩ := YB.2 3 _ rfl
    obtain ⟨z4, g4⟩ := YB.2 4 _ rfl
    obtain ⟨z5, g5⟩ := YB.2 5 _ rfl
    have YY := dH ((((((YB.put 0 (.int .i64 f0)).put 1 (.int .i64 f1)).put 2 (.slice ua ss.length uc)).put 3 (.slice va es.length vc)).put 4 (.bool f4)).put 5 (.slice oa rs.length oc))
    have PA := dH ((((((P1.far (b := w.heap.size + 1) (o := 0) hyb (.int .i64 f0)).far (b := w.heap.size + 1) (o := 1) hyb (.int .i64 f1)).far (b := w.heap.size + 1) (o := 2) hyb (.slice ua ss.length uc)).far (b := w.heap.size + 1) (o := 3) hyb (.slice va es.length vc)).far (b := w.heap.size + 1) (o := 4) hyb (.bool f4)).far (b := w.heap.size + 1) (o := 5) hyb (.slice oa rs.length oc))
    have PB := dH ((((((P2.farE (b := w.heap.size + 1) (o := 0) hyb (.int .i64 f0)).farE (b := w.heap.size + 1) (o := 1) hyb (.int .i64 f1)).farE (b := w.heap.size + 1) (o := 2) hyb (.slice ua ss.length uc)).farE (b := w.heap.size + 1) (o := 3) hyb (.slice va es.length vc)).farE (b := w.heap.size + 1) (o := 4) hyb (.bool f4)).farE (b := w.heap.size + 1) (o := 5) hyb (.slice oa rs.length oc))
    have PC := dH ((((((LL.far (b := w.heap.size + 1) (o := 0) (by omega) (.int .i64 f0)).far (b := w.heap.size + 1) (o := 1) (by omega) (.int .i64 f1)).far (b := w.heap.size + 1) (o := 2) (by omega) (.slice ua ss.length uc)).far (b := w.heap.size + 1) (o := 3) (by omega) (.slice va es.length vc)).far (b := w.heap.size + 1) (o := 4) (by omega) (.bool f4)).far (b := w.heap.size + 1) (o := 5) (by omega) (.slice oa rs.length oc))
    have BF := dH ((((((BB.setCell (p := ⟨w.heap.size + 1, 0, none⟩) (by simp) (.int .i64 f0)).setCell (p := ⟨w.heap.size + 1, 1, none⟩) (by simp) (.int .i64 f1)).setCell (p := ⟨w.heap.size + 1, 2, none⟩) (by simp) (.slice ua ss.length uc)).setCell (p := ⟨w.heap.size + 1, 3, none⟩) (by simp) (.slice va es.length vc)).setCell (p := ⟨w.heap.size + 1, 4, none⟩) (by simp) (.bool f4)).setCell (p := ⟨w.heap.size + 1, 5, none⟩) (by simp) (.slice oa rs.length oc))
    have hVz : wr.heap.size = ((((((wr.setCell ⟨w.heap.size + 1, 0, none⟩ (.int .i64 f0)).setCell ⟨w.heap.size + 1, 1, none⟩ (.int .i64 f1)).setCell ⟨w.heap.size + 1, 2, none⟩ (.slice ua ss.length uc)).setCell ⟨w.heap.size + 1, 3, none⟩ (.slice va es.length vc)).setCell ⟨w.heap.size + 1, 4, none⟩ (.bool f4)).setCell ⟨w.heap.size + 1, 5, none⟩ (.slice oa rs.length oc)).heap.size := by simp
    have EQM := dH eqm
    clear LL NB P1 P2 YB BB hL hN hP1 hP2 hqm eqm HR HN HLL
    go_wp2_with fail
    generalize ((((((wr.setCell ⟨w.heap.size + 1, 0, none⟩ (.int .i64 f0)).setCell ⟨w.heap.size + 1, 1, none⟩ (.int .i64 f1)).setCell ⟨w.heap.size + 1, 2, none⟩ (.slice ua ss.length uc)).setCell ⟨w.heap.size + 1, 3, none⟩ (.slice va es.length vc)).setCell ⟨w.heap.size + 1, 4, none⟩ (.bool f4)).setCell ⟨w.heap.size + 1, 5, none⟩ (.slice oa rs.length oc)) = V at *
    have q0 := ((dU YY).2 0 _ rfl).1
    have q1 := ((dU YY).2 1 _ rfl).1
    have q2 := ((dU YY).2 2 _ rfl).1
    have q3 := ((dU YY).2 3 _ rfl).1
    have q4 := ((dU YY).2 4 _ rfl).1
    have q5 := ((dU YY).2 5 _ rfl).1
    refine bodyPost_ret (v := .agg #[.int .i64 f0, .int .i64 f1, .slice ua ss.length uc, .slice va es.length vc, .bool f4, .slice oa rs.length oc]) (by simp [results, Tryz.results33, go_sem, q0, q1, q2, q3, q4, q5]) rfl ⟨?_, dU BF⟩
    obtain ⟨sv', ev', wv', qs', h1, h2, h3⟩ := dU EX V _ _ _ qs wx.heap.size (dU EQM) ((dU PA).mono (by omega)) ((dU PB).mono (by omega)) (dU PC) (by omega) S12 P1l P2l
    first | exact ⟨sv', ev', wv', qs', h1, h2, h3⟩ | exact ⟨sv', ev', wv', h1, qs', h2, h3⟩
end Go.Proofs.YtjkjmapibcfcdaaGreat
