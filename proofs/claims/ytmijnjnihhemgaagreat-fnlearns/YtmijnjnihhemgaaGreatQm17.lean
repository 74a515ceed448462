/-
  impl.merged: a list put into a right store, and what of it is new.
  impl.Merge: its contract.
  spec.Install, impl.Install: their contracts.
  spec.Install: its contract; how long a store can be.
  laws.same at a record and itself.
  laws.newest, laws.sameStore: their contracts.
  spec.Find, impl.Find: their contracts.
-/
import Derived.Test.YtmijnjnihhemgaaGreatQm16
import Derived.Test.YtmijnjnihhemgaaGreatQm10
import Derived.Test.YtmijnjnihhemgaaGreatQm7
import Derived.Deep.RegionHeld3
import Derived.Test.YtmijnjnihhemgaaGreatQm3
namespace Go.Proofs.YtmijnjnihhemgaaGreat
open Go.RowKit
set_option linter.unusedSimpArgs false
set_option linter.unusedVariables false
set_option maxRecDepth 100000
set_option maxHeartbeats 8000000
def instD (xs : List RecD) (r : RecD) : List RecD := if takesB xs r then putD xs r else xs
def mergeD (xs ts : List RecD) : List RecD := if storeB xs then ts.foldl instD xs else xs
theorem instL_fsts (ps : List RP) (r : RP) : fsts (instL ps r) = instD (fsts ps) r.1 := by
 unfold instL instD
 cases takesB (fsts ps) r.1
 ·rfl
 ·exact putL_fsts ps r
theorem fold_fsts (ps ts : List RP) : fsts (ts.foldl instL ps) = (fsts ts).foldl instD (fsts ps) := by
 induction ts generalizing ps with
 | nil => rfl
 | cons t ts ih => rw [List.foldl_cons, ih, instL_fsts]; rfl
theorem asc_filter {xs : List RecD} (h : Asc xs) (f : RecD → Bool) : Asc (xs.filter f) := List.Pairwise.filter f h
theorem asc_putD {xs : List RecD} (h : Asc xs) (r : RecD) : Asc (putD xs r) := by
 unfold putD Asc
 rw [List.append_assoc, List.pairwise_append]
 refine ⟨asc_filter h _, ?_, ?_⟩
 ·rw [List.pairwise_append]
  refine ⟨by simp, asc_filter h _, ?_⟩
  intro a ha b hb
  have : a = r := by simpa using ha
  subst this
  simpa using (List.mem_filter.1 hb).2
 ·intro a ha b hb
  have h1 : beforeB a r = true := by simpa using (List.mem_filter.1 ha).2
  rcases List.mem_append.1 hb with h2 | h2
  ·have : b = r := by simpa using h2
   subst this
   exact h1
  ·have h3 : beforeB r b = true := by simpa using (List.mem_filter.1 h2).2
   exact bef_trans h1 h3
theorem asc_instD {xs : List RecD} (h : Asc xs) (r : RecD) : Asc (instD xs r) := by
 unfold instD
 split
 ·exact asc_putD h r
 ·exact h
theorem store_asc_of {xs : List RecD} (h : storeB xs = true) : Asc xs := by
 unfold storeB at h
 simp only [Bool.and_eq_true] at h
 exact asc_of h.2
def newsD (xs : List RecD) : List RecD → List RecD
 | [] => []
 | t :: ts => if takesB xs t then t :: newsD (putD xs t) ts else newsD xs ts
theorem newsD_snoc (xs ts : List RecD) (t : RecD) : newsD xs (ts ++ [t]) = newsD xs ts ++ (if takesB (ts.foldl instD xs) t then [t] else []) := by
 induction ts generalizing xs with
 | nil =>
  simp only [List.nil_append, newsD, List.foldl_nil]
  rfl
 | cons u ts ih =>
  by_cases h : takesB xs u = true
  ·have e : instD xs u = putD xs u := by unfold instD; rw [if_pos h]
   simp only [List.cons_append, newsD, List.foldl_cons, h, if_true, e, ih]
  ·have e : instD xs u = xs := by unfold instD; rw [if_neg h]
   simp only [List.cons_append, newsD, List.foldl_cons, if_neg h, e, ih]
theorem fsts_take_succ {ts : List RP} {k : Nat} {p : RP} (h : ts[k]? = some p) : fsts (ts.take (k + 1)) = fsts (ts.take k) ++ [p.1] := map_take h
theorem tot_news (xs : List RecD) (ts : List RecD) : totD (newsD xs ts) ≤ totD ts := by
 induction ts generalizing xs with
 | nil => simp [newsD]
 | cons t ts ih =>
  simp only [newsD]
  split
  ·rw [totD_cons, totD_cons]; have := ih (putD xs t); omega
  ·rw [totD_cons]; have := ih xs; omega
def Sep (u : Value) (l : List RP) (y : Value) (ns : List RP) : Prop := ∀ k, BlkOf u l k → ¬ BlkOf y ns k
theorem append_struct7 {α : Type} {enc : α → List Value} {sz bytes : Nat} (hlen : ∀ a, (enc a).length = sz) (hpos : 0 < sz) (hbb : bytes ≤ 100) {P : Program} (w : World) {ops : Array Oper} {rest : List Oper} {o : Oper} {a : Act} {Q : Exit → Act → World → Prop} (hgd : o.guard = none) (s x : Operand) (t : TypeId)
  (ho : o.op = .call { callee := .builtin .append, args := #[s, x], argTypes := #[t, t] }) (base : Nat) (e : TypeId) (ht : P.underlying t = some (.slice e)) (zv : Value) (hzv : zv.cells.size = sz)
  (hinfo : (P.info? e).map (fun i => (i.zero, i.size, i.bytes)) = some (some zv, sz, bytes))
  (v : Value) (l : List α) (y : α) (hone : ∀ u ∈ enc y, u.oneCell' = true) (hs : a.eval s = v) (hown : w.ownsRow base e sz v l.length (flat enc l))
  (ad : Addr) (c : Nat) (hx : a.eval x = .slice (some ad) 1 c) (hnews : ∀ j u, (enc y)[j]? = some u → w.cell? (ad.add j) = some u)
  (hl : l.length + 1 ≤ 1000000000) (hbase : base ≤ w.heap.size)
  (h : ∀ v' w', w'.ownsRow base e sz v' (l ++ [y]).length (flat enc (l ++ [y])) → GrownV w w' v.ownBlock v' → wpList P ops Q rest (a.put o.dst v') w') : wpList P ops Q (o :: rest) a w := by
 obtain ⟨i0, hi, hz0, hz1, hz2⟩ := info_parts hinfo
 have hby : (l.length + 1) * bytes ≤ 140737488355328 := by
  have : (l.length + 1) * bytes ≤ 1000000000 * 100 := Nat.mul_le_mul hl hbb
  omega
 obtain ⟨v', w', hr, h2, h3, _⟩ := run_append_own (P := P) w base t o.type e i0 zv sz bytes ht hi hz0 hz1 hz2 hzv hpos v l.length (flat enc l) hown ad 1 c (enc y) (by rw [hlen]; omega) hnews hone (by unfold maxLen; omega) hby hbase
 have h4 := append_blk (P := P) w base t o.type e i0 zv ht hi hz0 v l.length (flat enc l) (by rw [hz1]; exact hown) ad 1 c (enc y) (by rw [hlen, hz1]; omega) hnews hone (by omega) (by unfold maxLen; omega) (by rw [hz2]; exact hby) hr
 have e1 : flat enc l ++ enc y = flat enc (l ++ [y]) := by rw [flat_append]; simp [flat]
 rw [e1] at h2
 exact Lib.wpList_append_run w hgd s x t t ho v _ hs hx v' w' hr (h v' w' (by simpa using h2) ⟨h3, h4⟩)
theorem merged_any (v v2 : Value) (ps ts : List RP) (hi : Nat) (w : World) (hv : RecsIn w hi v ps) (ht : RecsIn w hi v2 ts) (hhi : hi ≤ w.heap.size) (hn : tot ps + tot ts ≤ 1048576) (hst : Asc (fsts ps)) :
  Calls Tryz.prog 74 #[v, v2] w fun e w' => ∃ x y qs ns, e = .returned (.tuple #[x, y]) ∧ fsts qs = (fsts ts).foldl instD (fsts ps) ∧ fsts ns = newsD (fsts ps) (fsts ts) ∧ RecsOwn w' w.heap.size w'.heap.size x qs ∧ RecsOwn w' w.heap.size w'.heap.size y ns ∧ Sep x qs y ns ∧ Below w.heap.size w w' := by
 have hnt := tot_len ts
 obtain ⟨a1, c1, rfl⟩ := owns_lenS hv.row
 obtain ⟨ta, tc, rfl⟩ := owns_lenS ht.row
 have HOW := hide (ownList_any (.slice a1 ps.length c1) ps hi w hv hhi (by omega))
 have HT := hide ht
 have HS := hide hst
 clear hv ht hst
 go_enter Tryz.func74, Tryz.ntmps74
 go_wp2_with fail
 refine HOW.out.mono ?_
 rintro e w1 ⟨x1, q1, rfl, f1, o1, b1⟩
 obtain ⟨xa, xc, rfl⟩ := owns_lenS o1.row
 have F1 := hide f1
 have A1 := hide (show Asc (fsts q1) by rw [f1]; exact HS.out)
 have BL1 := (Below.refl w1.heap.size w1).alloc (Nat.le_refl _) (.cells #[] 39)
 have O1 := hide ((o1.below BL1 (Nat.le_refl _)).wide (Nat.le_refl _) BL1.size)
 have L1 := hide (recs_lit w1 w.heap.size b1.size)
 have SP1 := hide (show Sep (.slice xa q1.length xc) q1 (.slice (some ⟨w1.heap.size, 0, none⟩) 0 0) [] from fun k h1 h2 => by
  have h3 := (o1.blk k h1).2.2
  rcases h2 with h2 | ⟨p, hp, _⟩
  ·simp [Value.ownBlock] at h2; omega
  ·simp at hp)
 have B1 : Below w.heap.size w (w1.alloc (.cells #[] 39)) := b1.alloc b1.size _
 clear f1 o1 b1 BL1
 go_wp2
 go_loopw [15, 6, 7] (fun i o z wr => ∃ (k : Nat) (u y : Value) (l ns : List RP), k ≤ ts.length ∧ i = .int .i64 k ∧ o = u ∧ z = y ∧ Hid (fsts l = fsts ((ts.take k).foldl instL ps)) ∧ Hid (fsts ns = newsD (fsts ps) (fsts (ts.take k))) ∧ RecsOwn wr w.heap.size wr.heap.size u l ∧ RecsOwn wr w.heap.size wr.heap.size y ns ∧ Hid (Sep u l y ns) ∧ Hid (Asc (fsts l)) ∧ Below w.heap.size w wr) (fun i _ _ _ => ts.length - (intOf i).toNat)
 case atStart => exact ⟨0, _, _, q1, [], by omega, rfl, rfl, rfl, F1, hide rfl, O1.out, L1.out, SP1, A1, B1⟩
 case round =>
  obtain ⟨k, u, y, l, ns, hk, rfl, rfl, rfl, HL, HNS, hown, hnew, HSP, HA, hnx⟩ := hrel
  obtain ⟨ua, uc, rfl⟩ := owns_lenS hown.row
  obtain ⟨ya, yc, rfl⟩ := owns_lenS hnew.row
  have hsz := hnx.size
  have hlt0 : tot l ≤ 1048576 := by
   rw [tot_map HL.out]
   have h1 := tot_fold ps (ts.take k)
   have h2 := tot_append (ts.take k) (ts.drop k)
   rw [List.take_append_drop] at h2
   omega
  have hns0 : ns.length ≤ 1048576 := by
   have h1 := tot_news (fsts ps) (fsts (ts.take k))
   rw [← HNS.out, ← tot_D, ← tot_D] at h1
   have h2 := tot_append (ts.take k) (ts.drop k)
   rw [List.take_append_drop] at h2
   have := tot_len ns
   omega
  by_cases hlt : k < ts.length
  ·have hkj : (k : Int) < (ts.length : Int) := by omega
   have hki : (0 : Int) ≤ (k : Int) := by omega
   obtain ⟨p, hp⟩ : ∃ p, ts[k]? = some p := ⟨ts[k], List.getElem?_eq_getElem hlt⟩
   obtain ⟨b, off, cap', hve, hbb, c0, c1, c2, c3, c4, c5, c6, c7, hnr⟩ := HT.out.at.cells k p hp
   cases hve
   obtain ⟨pa, pc, hpn⟩ := NearsAt.shape hnr
   rw [hpn] at c5
   have hbw : b < w.heap.size := by omega
   rw [← hnx.cell (p := ⟨b, off + k * 8, none⟩) hbw] at c0
   rw [← hnx.cell (p := ⟨b, off + k * 8 + 1, none⟩) hbw] at c1
   rw [← hnx.cell (p := ⟨b, off + k * 8 + 2, none⟩) hbw] at c2
   rw [← hnx.cell (p := ⟨b, off + k * 8 + 3, none⟩) hbw] at c3
   rw [← hnx.cell (p := ⟨b, off + k * 8 + 4, none⟩) hbw] at c4
   rw [← hnx.cell (p := ⟨b, off + k * 8 + 5, none⟩) hbw] at c5
   rw [← hnx.cell (p := ⟨b, off + k * 8 + 6, none⟩) hbw] at c6
   rw [← hnx.cell (p := ⟨b, off + k * 8 + 7, none⟩) hbw] at c7
   have hno := ((HT.out.nears p (List.mem_of_getElem? hp)).keep (W' := wr) (fun j _ h2 _ => hnx.block j (by omega))).wide (Nat.le_refl _) (show hi ≤ wr.heap.size by omega)
   have hpl : p.1.near.length ≤ 1048576 := by have := tot_mem (List.mem_of_getElem? hp); omega
   have BY : Below wr.heap.size wr (wr.alloc (.cells #[.int .i64 p.1.area, .int .i64 p.1.kind, .int .i64 p.1.owner, .int .i64 p.1.key, .int .i64 p.1.seq, .slice pa p.1.near.length pc, .int .i64 p.1.cost, .bool p.1.far] 39)) := (Below.refl _ _).alloc (Nat.le_refl _) _
   have hy := heap_alloc_new wr (.cells #[.int .i64 p.1.area, .int .i64 p.1.kind, .int .i64 p.1.owner, .int .i64 p.1.key, .int .i64 p.1.seq, .slice pa p.1.near.length pc, .int .i64 p.1.cost, .bool p.1.far] 39)
   obtain ⟨wy, hwy⟩ : ∃ W, W = wr.alloc (.cells #[.int .i64 p.1.area, .int .i64 p.1.kind, .int .i64 p.1.owner, .int .i64 p.1.key, .int .i64 p.1.seq, .slice pa p.1.near.length pc, .int .i64 p.1.cost, .bool p.1.far] 39) := ⟨_, rfl⟩
   rw [← hwy] at BY hy
   have hys := lt_of_heap hy
   have HTK := hide (takes_any (.slice ua l.length uc) l wr.heap.size p wy (hown.in.below BY (Nat.le_refl _)) BY.size hlt0 (hno.keep (fun j _ h2 _ => BY.block j h2)) hpl)
   have HOR := hide (fun W (hb : Below w.heap.size w W) => ownRec_any p.1 p.2 0 W ((HT.out.nears p (List.mem_of_getElem? hp)).keep (W' := W) (fun j _ h2 _ => hb.block j (by omega))).1 hpl)
   have HPT := hide (fun (v' : Value) W (h1 : RecsOwn W w.heap.size W.heap.size (.slice ua l.length uc) l) h2 h3 h4 => iput_fine (.slice ua l.length uc) l w.heap.size (p.1, v') W h1 h2 hlt0 HA.out h3 h4)
   have HFT := hide (fold_take ps hp)
   have HNT := hide (show newsD (fsts ps) (fsts (ts.take (k + 1))) = newsD (fsts ps) (fsts (ts.take k)) ++ (if takesB (fsts l) p.1 then [p.1] else []) by rw [fsts_take_succ hp, newsD_snoc, ← fold_fsts, ← HL.out])
   unfold recC at *
   rw [hpn] at HTK HOR
   have OWN := hide hown
   have NEW := hide hnew
   obtain ⟨T, hT⟩ : ∃ T, T = takesB (fsts l) p.1 := ⟨_, rfl⟩
   rw [← hT] at HTK HNT
   have HTT := hide hT
   clear hT hnr hno hpn hp hown hnew
   go_wp2_with fail
   rw [← hwy]
   clear hwy
   refine HTK.out.mono ?_
   rintro e w3 ⟨rfl, b3⟩
   have b3s := b3.size
   have bys := BY.size
   have B3 : Below wr.heap.size wr w3 := BY.trans (b3.mono BY.size)
   have hy3 := (b3.block _ hys).trans hy
   have d0 := cells_at hy3 0
   have d1 := cells_at hy3 1
   have d2 := cells_at hy3 2
   have d3 := cells_at hy3 3
   have d4 := cells_at hy3 4
   have d5 := cells_at hy3 5
   have d6 := cells_at hy3 6
   have d7 := cells_at hy3 7
   simp at d0 d1 d2 d3 d4 d5 d6 d7
   clear hy b3 HTK c0 c1 c2 c3 c4 c5 c6 c7
   cases T
   ·have HN := hide (show fsts l = fsts ((ts.take (k + 1)).foldl instL ps) by rw [HFT.out, instL_fsts, ← HL.out]; unfold instD; rw [← HTT.out]; rfl)
    have HN2 := hide (show fsts ns = newsD (fsts ps) (fsts (ts.take (k + 1))) by rw [HNT.out, HNS.out]; simp)
    have OW3 := hide ((OWN.out.below B3 (Nat.le_refl _)).wide (Nat.le_refl _) (show wr.heap.size ≤ w3.heap.size by omega))
    have NW3 := hide ((NEW.out.below B3 (Nat.le_refl _)).wide (Nat.le_refl _) (show wr.heap.size ≤ w3.heap.size by omega))
    go_wp2
    go_roundw
    case rel => exact ⟨k + 1, _, _, l, ns, by omega, by go_num, rfl, rfl, HN, HN2, OW3.out, NW3.out, HSP, HA, hnx.trans (B3.mono hsz)⟩
    case measure => simp [intOf]; omega
   ·have HN := hide (show ∀ l' : List RP, fsts l' = putD (fsts l) p.1 → fsts l' = fsts ((ts.take (k + 1)).foldl instL ps) ∧ Asc (fsts l') from fun l' h => by
     rw [HFT.out, instL_fsts, ← HL.out, h]
     refine ⟨?_, asc_putD HA.out _⟩
     unfold instD
     rw [← HTT.out]
     rfl)
    go_wp2_with fail
    refine (HOR.out _ (hnx.trans (B3.mono hsz))).mono ?_
    rintro e w4 ⟨n1, rfl, o4, b4⟩
    have b4s := b4.size
    have B4 : Below wr.heap.size wr w4 := B3.trans (b4.mono (by omega))
    have hy4 := (b4.block _ (lt_of_heap hy3)).trans hy3
    have hr4 : NearOwn w4 w.heap.size w4.heap.size (p.1, n1) := ⟨owns_baseS o4 (by omega), fun k hk => (o4.lt k hk).2⟩
    have hap : ∀ q ∈ l, Apart q (p.1, n1) := fun q hq k h1 h2 => by
     have h3 := (OWN.out.nears q hq).2 k h1
     have h4 := (o4.lt k h2).1
     omega
    have hn1 : ∀ k, n1.ownBlock = some k → wr.heap.size ≤ k ∧ k < w4.heap.size := fun k hk => ⟨by have := (o4.lt k hk).1; omega, (o4.lt k hk).2⟩
    have HP4 := HPT.out n1 w4 ((OWN.out.below B4 (Nat.le_refl _)).wide (Nat.le_refl _) (by omega)) (by omega) hr4 hap
    have NW4 := hide (NEW.out.below B4 (Nat.le_refl _))
    obtain ⟨na, nc, rfl⟩ := owns_lenS o4
    have HP5 := hide HP4
    have HN1 := hide hn1
    clear HP4 hap hr4 o4 HPT hn1 d0 d1 d2 d3 d4 d5 d6 d7 hy3
    go_wp2_with fail
    refine HP5.out.mono ?_
    rintro e w5 ⟨x5, q5, rfl, f5, o5, b5, pf5⟩
    obtain ⟨x5a, x5c, rfl⟩ := owns_lenS o5.row
    have N5 := HN.out q5 f5
    have NF := hide N5.1
    have NA := hide N5.2
    have O5 := hide o5
    have b5s := b5.size
    have B5 : Below w.heap.size w w5 := (hnx.trans (B4.mono hsz)).trans b5
    have hv5 : ∀ k, (Value.slice ua l.length uc).ownBlock = some k → k < wr.heap.size := fun k hk => (OWN.out.blk k (.inl hk)).2.2
    have hy5 := (pf5.keep _ (lt_of_heap hy4) (fun e => by have := hv5 _ e; omega)).trans hy4
    have NW5 := hide (NW4.out.keepS (W' := w5) (fun k hk => pf5.keep k (by have := (NEW.out.blk k hk).2.2; omega) (fun e => HSP.out k (.inl e) hk)))
    have BK5 := hide (show ∀ k, BlkOf (.slice x5a q5.length x5c) q5 k → k < w5.heap.size ∧ (BlkOf (.slice ua l.length uc) l k ∨ wr.heap.size ≤ k) from fun k hk => by
     refine ⟨(o5.blk k hk).2.2, ?_⟩
     rcases hk with hk | ⟨q, hq, hk⟩
     ·rcases pf5.row k hk with h | h
      ·exact .inl (.inl h)
      ·exact .inr (by omega)
     ·rcases pf5.near q hq with h | h
      ·exact .inl (.inr ⟨q, h, hk⟩)
      ·exact .inr (HN1.out k (by rw [h] at hk; exact hk)).1)
    have d0 := cells_at hy5 0
    have d1 := cells_at hy5 1
    have d2 := cells_at hy5 2
    have d3 := cells_at hy5 3
    have d4 := cells_at hy5 4
    have d5 := cells_at hy5 5
    have d6 := cells_at hy5 6
    have d7 := cells_at hy5 7
    simp at d0 d1 d2 d3 d4 d5 d6 d7
    have HO5 := hide (HOR.out _ B5)
    clear N5 f5 o5 b5 HN HP5 pf5 hv5
    go_wp2_with fail
    refine HO5.out.mono ?_
    rintro e w6 ⟨n2, rfl, o6, b6⟩
    have b6s := b6.size
    obtain ⟨ma, mc, rfl⟩ := owns_lenS o6
    have NW5w := hide (NW5.out.wide (Nat.le_refl _) (show wr.heap.size ≤ w5.heap.size by omega))
    have ROW6 := hide (owns_below NW5w.out.row b6 (Nat.le_refl _))
    clear d0 d1 d2 d3 d4 d5 d6 d7 hy5 hy4 HO5
    go_wp2_with (first
     | (at_builtin; refine append_struct7 encP_len (by omega) (by omega) _ rfl _ _ 29 rfl w.heap.size 39 Tryz.underlying29 (.agg (recC zeroRD (.slice none 0 0))) rfl Tryz.infoRec _ ns (p.1, .slice ma p.1.near.length mc) (encP_one _ _ _ _) rfl (ROW6.out.alloc _) ⟨w6.heap.size, 0, none⟩ 1 rfl (news_struct (cs := encP (p.1, .slice ma p.1.near.length mc))) (by omega) (by simp; omega) ?_))
    intro v7 w7 row7 gv7
    have b7s := gv7.1.size
    simp at b7s
    have NW7 := hide (NW5w.out.push (p := (p.1, .slice ma p.1.near.length mc)) (b6.alloc b6.size _) (by omega) (NearOwn.wide (NearOwn.keep ⟨o6, fun k hk => (o6.lt k hk).2⟩ (fun j _ _ h3 => Below.heap_alloc _ _ _ h3)) (Nat.le_refl _) (by simp)) row7 gv7.1)
    have hyb : ∀ k, (Value.slice ya ns.length yc).ownBlock = some k → BlkOf (.slice ya ns.length yc) ns k ∧ k < wr.heap.size := fun k hk => ⟨.inl hk, (NEW.out.blk k (.inl hk)).2.2⟩
    have OW7 := hide ((((O5.out.below b6 (Nat.le_refl _)).below ((Below.refl w6.heap.size w6).alloc (Nat.le_refl _) (.cells (encP (p.1, .slice ma p.1.near.length mc)).toArray 39)) (by omega)).keepS (W' := w7) (fun k hk => by
     have hb := BK5.out k hk
     refine gv7.1.block k (by simp; omega) (fun e => ?_)
     have hz := hyb k e.symm
     rcases hb.2 with h | h
     ·exact HSP.out k h hz.1
     ·omega)).wide (Nat.le_refl _) (show w5.heap.size ≤ w7.heap.size by omega))
    have SP7 := hide (show Sep (.slice x5a q5.length x5c) q5 v7 (ns ++ [(p.1, .slice ma p.1.near.length mc)]) from fun k h1 h2 => by
     have hb := BK5.out k h1
     have h3 : BlkOf (.slice ya ns.length yc) ns k ∨ w5.heap.size ≤ k := by
      rcases h2 with h2 | ⟨q, hq, h2⟩
      ·rcases gv7.2 k h2 with h | h
       ·exact .inl (.inl h)
       ·exact .inr (by simp at h; omega)
      ·rcases List.mem_append.1 hq with h | h
       ·exact .inl (.inr ⟨q, h, h2⟩)
       ·rw [List.mem_singleton.1 h] at h2
        exact .inr (o6.lt k h2).1
     rcases h3 with h3 | h3
     ·have h4 := (NEW.out.blk k h3).2.2
      rcases hb.2 with h | h
      ·exact HSP.out k h h3
      ·omega
     ·omega)
    have B7 : Below w.heap.size w w7 := ((B5.trans (b6.mono B5.size)).alloc (by have := B5.size; omega) _).grown gv7.1 (by simp; omega) (fun k hk => (NEW.out.row.lt k hk).1)
    have HN2 := hide (show fsts (ns ++ [(p.1, Value.slice ma p.1.near.length mc)]) = newsD (fsts ps) (fsts (ts.take (k + 1))) by rw [HNT.out, ← HNS.out]; simp [fsts])
    obtain ⟨v7a, v7c, rfl⟩ := owns_lenS row7
    clear row7 gv7 o6 b6 hyb
    go_wp2
    go_roundw
    case rel => exact ⟨k + 1, _, _, q5, _, by omega, by go_num, rfl, rfl, NF, HN2, OW7.out, NW7.out, SP7, NA, B7⟩
    case measure => simp [intOf]; omega
  ·have hkn : ¬ (k : Int) < (ts.length : Int) := by omega
   have KN := hide (show k = ts.length by omega)
   have HF := hide (show fsts l = (fsts ts).foldl instD (fsts ps) by
    rw [HL.out, KN.out, List.take_length, fold_fsts])
   have HF2 := hide (show fsts ns = newsD (fsts ps) (fsts ts) by
    rw [HNS.out, KN.out, List.take_length])
   have OWN := hide hown
   have NEW := hide hnew
   clear hown hnew
   go_wp2
   go_returns
   first
    | exact ⟨_, _, l, ns, rfl, HF.out, HF2.out, OWN.out, NEW.out, HSP.out, hnx⟩
    | exact ⟨_, _, rfl, l, HF.out, ns, HF2.out, OWN.out, NEW.out, HSP.out, hnx⟩


theorem allOk_at {α : Type} {f : α → Bool} {xs : List α} (h : allOk f xs = true) (i : Nat) (hi : i < xs.length) : f xs[i] = true := by
 have h1 := List.all_eq_true.1 h i (List.mem_range.2 hi)
 unfold okAt at h1
 rw [List.getElem?_eq_getElem hi] at h1
 exact h1
theorem nears_le {o : Int} {ns : List Nr} (h : nearsB o ns = true) : ns.length ≤ 6 := by
 unfold nearsB at h
 simp only [Bool.and_eq_true] at h
 have hb : ∀ i (hi : i < ns.length), (i : Int) + 1 ≤ ns[i].to := by
  intro i
  induction i with
  | zero =>
   intro hi
   have h1 := allOk_at h.1 0 hi
   unfold nearOkB inB at h1
   simp only [Bool.and_eq_true, decide_eq_true_eq] at h1
   omega
  | succ i ih =>
   intro hi
   have h1 := ih (by omega)
   have h2 := List.all_eq_true.1 h.2 (i + 1) (List.mem_range.2 hi)
   rw [ascAt_eq (List.getElem?_eq_getElem (by omega)) (List.getElem?_eq_getElem hi)] at h2
   unfold ordN at h2
   simp only [decide_eq_true_eq] at h2
   omega
 cases Nat.lt_or_ge 6 ns.length with
 | inr h0 => exact h0
 | inl h0 =>
  have h1 := hb 6 h0
  have h2 := allOk_at h.1 6 h0
  unfold nearOkB inB at h2
  simp only [Bool.and_eq_true, decide_eq_true_eq] at h2
  omega
theorem recOk_near {x : RecD} (h : recOkB x = true) : x.near.length ≤ 6 := by
 unfold recOkB at h
 simp only [Bool.and_eq_true] at h
 have h2 := h.2
 split at h2
 ·simp only [Bool.and_eq_true] at h2
  exact nears_le h2.1.1.2
 ·split at h2
  ·simp only [Bool.and_eq_true, beq_iff_eq] at h2
   omega
  ·split at h2
   ·simp only [Bool.and_eq_true, beq_iff_eq] at h2
    omega
   ·cases h2
theorem totD_le {xs : List RecD} (h : ∀ x ∈ xs, recOkB x = true) : totD xs ≤ xs.length * 7 := by
 induction xs with
 | nil => simp [totD]
 | cons x xs ih =>
  rw [totD_cons, List.length_cons]
  have h1 := ih (fun y hy => h y (List.mem_cons_of_mem _ hy))
  have h2 := recOk_near (h x (List.mem_cons_self ..))
  omega
theorem store_ok {xs : List RecD} (h : storeB xs = true) : xs.length ≤ 150 ∧ (∀ x ∈ xs, recOkB x = true) ∧ Asc xs := by
 have h1 := store_asc_of h
 unfold storeB at h
 simp only [Bool.and_eq_true, decide_eq_true_eq] at h
 refine ⟨h.1.1, ?_, h1⟩
 intro x hx
 obtain ⟨i, hi, e⟩ := List.getElem_of_mem hx
 rw [← e]
 exact allOk_at h.1.2 i hi
theorem store_tot {xs : List RecD} (h : storeB xs = true) : totD xs ≤ 1050 := by
 have h1 := store_ok h
 have h2 := totD_le h1.2.1
 omega
theorem takes_ok {xs : List RecD} {r : RecD} (h : takesB xs r = true) : recOkB r = true := by
 unfold takesB at h
 simp only [Bool.and_eq_true] at h
 exact h.1
theorem same_any (x : RecD) (v1 v2 : Value) (w : World) (h1 : NearsAt w v1 x.near w.heap.size) (h2 : NearsAt w v2 x.near w.heap.size) (hl : x.near.length ≤ 1048576) :
  Calls Tryz.prog 15 #[.agg (recC x v1), .agg (recC x v2)] w fun e w' => e = .returned (.bool true) ∧ Below w.heap.size w w' := by
 obtain ⟨a1, c1, rfl⟩ := h1.shape
 obtain ⟨a2, c2, rfl⟩ := h2.shape
 have H1 := hide h1
 have H2 := hide h2
 clear h1 h2
 have BX : Below w.heap.size w ((w.alloc (.cells (recC x (.slice a1 x.near.length c1)) 39)).alloc (.cells (recC x (.slice a2 x.near.length c2)) 39)) := below_two _ _
 have hq0 : ((w.alloc (.cells (recC x (.slice a1 x.near.length c1)) 39)).alloc (.cells (recC x (.slice a2 x.near.length c2)) 39)).heap[w.heap.size]? = some (.cells (recC x (.slice a1 x.near.length c1)) 39) := by rw [Below.heap_alloc _ _ _ (by simp), heap_alloc_new]
 have hq1 : ((w.alloc (.cells (recC x (.slice a1 x.near.length c1)) 39)).alloc (.cells (recC x (.slice a2 x.near.length c2)) 39)).heap[w.heap.size + 1]? = some (.cells (recC x (.slice a2 x.near.length c2)) 39) := by
  have e := heap_alloc_new (w.alloc (.cells (recC x (.slice a1 x.near.length c1)) 39)) (.cells (recC x (.slice a2 x.near.length c2)) 39)
  simpa using e
 obtain ⟨wx, hwx⟩ : ∃ wx, wx = (w.alloc (.cells (recC x (.slice a1 x.near.length c1)) 39)).alloc (.cells (recC x (.slice a2 x.near.length c2)) 39) := ⟨_, rfl⟩
 rw [← hwx] at BX hq0 hq1
 have hsx := lt_of_heap hq1
 unfold recC at *
 have HQ0 := hide hq0
 have HQ1 := hide hq1
 clear hq0 hq1
 go_enter Tryz.func15, Tryz.ntmps15
 go_wp2
 rw [← hwx]
 clear hwx
 go_loopw [5] (fun i wr => ∃ k : Nat, k ≤ x.near.length ∧ i = .int .i64 k ∧ Below wx.heap.size wx wr) (fun i _ => x.near.length - (intOf i).toNat)
 case atStart => exact ⟨0, by omega, rfl, Below.refl _ _⟩
 case round =>
  obtain ⟨k, hk, rfl, hb⟩ := hrel
  have hbs := hb.size
  have hr0 := (hb.block _ (lt_of_heap HQ0.out)).trans HQ0.out
  have hr1 := (hb.block _ (lt_of_heap HQ1.out)).trans HQ1.out
  have s5 := cells_at hr0 5
  have t5 := cells_at hr1 5
  simp at s5 t5
  have BWR : Below w.heap.size w wr := BX.trans (hb.mono (by omega))
  by_cases hlt : k < x.near.length
  ·obtain ⟨n, hn⟩ : ∃ n, x.near[k]? = some n := ⟨x.near[k], List.getElem?_eq_getElem hlt⟩
   obtain ⟨d1, o1, e1, hv1, hd1, f0, f1⟩ := H1.out.cells k n hn
   obtain ⟨d2, o2, e2, hv2, hd2, g0, g1⟩ := H2.out.cells k n hn
   cases hv1
   cases hv2
   rw [← BWR.cell (p := ⟨d1, o1 + k * 2, none⟩) hd1] at f0
   rw [← BWR.cell (p := ⟨d1, o1 + k * 2 + 1, none⟩) hd1] at f1
   rw [← BWR.cell (p := ⟨d2, o2 + k * 2, none⟩) hd2] at g0
   rw [← BWR.cell (p := ⟨d2, o2 + k * 2 + 1, none⟩) hd2] at g1
   have hki : (0 : Int) ≤ (k : Int) := by omega
   have hkj : (k : Int) < (x.near.length : Int) := by omega
   have e0 := fun W => near_neq W n.to n.c n.to n.c
   rw [decide_eq_true rfl] at e0
   clear hn hr0 hr1
   go_wp2
   go_quiet (fail)
   go_wp2
   go_roundw
   case rel => exact ⟨k + 1, by omega, by go_num, hb.trans ⟨rfl, rfl, rfl, Nat.le_refl _, fun _ _ => rfl⟩⟩
   case measure => simp [intOf]; omega
  ·have hkn : k = x.near.length := by omega
   have KN := hide hkn
   clear hkn hr0 hr1
   go_wp2
   go_ret
   exact ⟨rfl, BWR⟩
def newStep (r : RecD) (m : Int) (x : RecD) : Int := if sameKeyB x r && decide (m < x.seq) then x.seq else m
def newestD (xs : List RecD) (r : RecD) : Int := xs.foldl (newStep r) 0
theorem newStep_no {r x : RecD} {m : Int} (h : sameKeyB x r = false) : newStep r m x = m := by unfold newStep; rw [h]; rfl
theorem newStep_old {r x : RecD} {m : Int} (h : ¬ m < x.seq) : newStep r m x = m := by unfold newStep; rw [decide_eq_false h]; simp
theorem newStep_new {r x : RecD} {m : Int} (h : sameKeyB x r = true) (h2 : m < x.seq) : newStep r m x = x.seq := by unfold newStep; rw [h, decide_eq_true h2]; rfl
theorem newest_take {ps : List RP} {k : Nat} {p : RP} (r : RecD) (h : ps[k]? = some p) : newestD (fsts (ps.take (k + 1))) r = newStep r (newestD (fsts (ps.take k)) r) p.1 := by
 rw [show fsts (ps.take (k + 1)) = fsts (ps.take k) ++ [p.1] from map_take h]
 unfold newestD
 rw [List.foldl_append]
 rfl
theorem newest_any (v : Value) (ps : List RP) (hi : Nat) (r : RP) (w : World) (hv : RecsIn w hi v ps) (hhi : hi ≤ w.heap.size) (hn : ps.length ≤ 1048576) :
  Calls Tryz.prog 16 #[v, .agg (recC r.1 r.2)] w fun e w' => e = .returned (.int .i64 (newestD (fsts ps) r.1)) ∧ Below w.heap.size w w' := by
 obtain ⟨NN, hNN⟩ : ∃ N, N = newestD (fsts ps) r.1 := ⟨_, rfl⟩
 rw [← hNN]
 have HNN := hide hNN
 clear hNN
 obtain ⟨a1, c1, rfl⟩ := owns_lenS hv.row
 have HV := hide hv
 clear hv
 have BX := (Below.refl w.heap.size w).alloc (Nat.le_refl _) (.cells (recC r.1 r.2) 39)
 have hx := heap_alloc_new w (.cells (recC r.1 r.2) 39)
 obtain ⟨wx, hwx⟩ : ∃ wx, wx = w.alloc (.cells (recC r.1 r.2) 39) := ⟨_, rfl⟩
 rw [← hwx] at BX hx
 unfold recC at *
 go_enter Tryz.func16, Tryz.ntmps16
 go_wp2
 rw [← hwx]
 have HX := hide hx
 clear hwx hx
 go_loopw [6, 5] (fun i o wr => ∃ (k : Nat) (m : Int), k ≤ ps.length ∧ i = .int .i64 k ∧ o = .int .i64 m ∧ Hid (m = newestD (fsts (ps.take k)) r.1) ∧ Below wx.heap.size wx wr) (fun i _ _ => ps.length - (intOf i).toNat)
 case atStart => exact ⟨0, 0, by omega, rfl, rfl, rfl, Below.refl _ _⟩
 case round =>
  obtain ⟨k, m, hk, rfl, rfl, HM, hnx⟩ := hrel
  have hsz := hnx.size
  have hsx := lt_of_heap HX.out
  have BWR : Below w.heap.size w wr := BX.trans (hnx.mono (by omega))
  by_cases hlt : k < ps.length
  ·obtain ⟨p, hp⟩ : ∃ p, ps[k]? = some p := ⟨ps[k], List.getElem?_eq_getElem hlt⟩
   have hat := HV.out.at
   obtain ⟨b, off, cap', hve, hbb, c0, c1, c2, c3, c4, c5, c6, c7, _⟩ := hat.cells k p hp
   cases hve
   rw [← BWR.cell (p := ⟨b, off + k * 8, none⟩) (Nat.lt_of_lt_of_le hbb hhi)] at c0
   rw [← BWR.cell (p := ⟨b, off + k * 8 + 1, none⟩) (Nat.lt_of_lt_of_le hbb hhi)] at c1
   rw [← BWR.cell (p := ⟨b, off + k * 8 + 2, none⟩) (Nat.lt_of_lt_of_le hbb hhi)] at c2
   rw [← BWR.cell (p := ⟨b, off + k * 8 + 3, none⟩) (Nat.lt_of_lt_of_le hbb hhi)] at c3
   rw [← BWR.cell (p := ⟨b, off + k * 8 + 4, none⟩) (Nat.lt_of_lt_of_le hbb hhi)] at c4
   rw [← BWR.cell (p := ⟨b, off + k * 8 + 5, none⟩) (Nat.lt_of_lt_of_le hbb hhi)] at c5
   rw [← BWR.cell (p := ⟨b, off + k * 8 + 6, none⟩) (Nat.lt_of_lt_of_le hbb hhi)] at c6
   rw [← BWR.cell (p := ⟨b, off + k * 8 + 7, none⟩) (Nat.lt_of_lt_of_le hbb hhi)] at c7
   have hxx := (hnx.block _ hsx).trans HX.out
   have d0 := cells_at hxx 0
   have d1 := cells_at hxx 1
   have d2 := cells_at hxx 2
   have d3 := cells_at hxx 3
   have d4 := cells_at hxx 4
   have d5 := cells_at hxx 5
   have d6 := cells_at hxx 6
   have d7 := cells_at hxx 7
   simp at d0 d1 d2 d3 d4 d5 d6 d7
   have hb1 : b < wr.heap.size := by omega
   have hb2 : w.heap.size < wr.heap.size := by omega
   have hki : (0 : Int) ≤ (k : Int) := by omega
   have hkj : (k : Int) < (ps.length : Int) := by omega
   have hq := fun W => ssameKey_any p.2 r.2 p.1 r.1 W
   unfold recC at hq
   obtain ⟨q, hqq⟩ : ∃ q, q = sameKeyB p.1 r.1 := ⟨_, rfl⟩
   rw [← hqq] at hq
   have HK := hide hq
   have HQQ := hide hqq
   have HPP := hide (newest_take r.1 hp)
   clear hq hqq hp hat hxx
   cases q
   ·have HN := hide (show m = newestD (fsts (ps.take (k + 1))) r.1 by rw [HPP.out, newStep_no HQQ.out.symm]; exact HM.out)
    go_wp2
    refine wp_region_start (S := (fun W => W.cell? ⟨b, off + k * 8, none⟩ = some (.int .i64 p.1.area) ∧ W.cell? ⟨b, off + k * 8 + 1, none⟩ = some (.int .i64 p.1.kind) ∧ W.cell? ⟨b, off + k * 8 + 2, none⟩ = some (.int .i64 p.1.owner) ∧ W.cell? ⟨b, off + k * 8 + 3, none⟩ = some (.int .i64 p.1.key) ∧ W.cell? ⟨b, off + k * 8 + 4, none⟩ = some (.int .i64 p.1.seq) ∧ W.cell? ⟨b, off + k * 8 + 5, none⟩ = some (p.2) ∧ W.cell? ⟨b, off + k * 8 + 6, none⟩ = some (.int .i64 p.1.cost) ∧ W.cell? ⟨b, off + k * 8 + 7, none⟩ = some (.bool p.1.far) ∧ W.cell? ⟨w.heap.size, 0, none⟩ = some (.int .i64 r.1.area) ∧ W.cell? ⟨w.heap.size, 1, none⟩ = some (.int .i64 r.1.kind) ∧ W.cell? ⟨w.heap.size, 2, none⟩ = some (.int .i64 r.1.owner) ∧ W.cell? ⟨w.heap.size, 3, none⟩ = some (.int .i64 r.1.key) ∧ W.cell? ⟨w.heap.size, 4, none⟩ = some (.int .i64 r.1.seq) ∧ W.cell? ⟨w.heap.size, 5, none⟩ = some (r.2) ∧ W.cell? ⟨w.heap.size, 6, none⟩ = some (.int .i64 r.1.cost) ∧ W.cell? ⟨w.heap.size, 7, none⟩ = some (.bool r.1.far))) (by kernel_rfl) 15 rfl ⟨c0, c1, c2, c3, c4, c5, c6, c7, d0, d1, d2, d3, d4, d5, d6, d7⟩ (fun ops hops hHeld => ?_)
    refine take_d 0 ?_ ?_ ?_ (by rw [hops.out]; kernel_rfl) ?_ ?_ (by assumption) ?_
    rotate_left 2
    ·rw [hops.out]; simp only [getS]; rfl
    ·intro W hW; (try dsimp only at hW); go_simp <;> with_reducible rfl
    ·exact fun _ _ _ => id
    try simp only [putS]
    refine take_d 1 ?_ ?_ ?_ (by rw [hops.out]; kernel_rfl) ?_ ?_ (by assumption) ?_
    rotate_left 2
    ·rw [hops.out]; simp only [getS]; rfl
    ·intro W hW; (try dsimp only at hW); go_simp <;> with_reducible rfl
    ·exact fun _ _ _ => id
    try simp only [putS]
    refine take_d 2 ?_ ?_ ?_ (by rw [hops.out]; kernel_rfl) ?_ ?_ (by assumption) ?_
    rotate_left 2
    ·rw [hops.out]; simp only [getS]; rfl
    ·intro W hW; (try dsimp only at hW); go_simp <;> with_reducible rfl
    ·exact fun _ _ _ => id
    try simp only [putS]
    refine take_d 3 ?_ ?_ ?_ (by rw [hops.out]; kernel_rfl) ?_ ?_ (by assumption) ?_
    rotate_left 2
    ·rw [hops.out]; simp only [getS]; rfl
    ·intro W hW; (try dsimp only at hW); go_simp <;> with_reducible rfl
    ·exact fun _ _ _ => id
    try simp only [putS]
    refine take_d 4 ?_ ?_ ?_ (by rw [hops.out]; kernel_rfl) ?_ ?_ (by assumption) ?_
    rotate_left 2
    ·rw [hops.out]; simp only [getS]; rfl
    ·intro W hW; (try dsimp only at hW); go_simp <;> with_reducible rfl
    ·exact fun _ _ _ => id
    try simp only [putS]
    refine take_call 5 (oi := ?_) ?_ (by rw [hops.out]; kernel_rfl) ?_ ?_
    rotate_left 1
    ·rw [hops.out]; simp only [getS]; rfl
    ·rw [hops.out]; kernel_rfl
    intro K hK
    go_simp
    refine (HK.out _).mono ?_
    rintro e w1 ⟨rfl, b1⟩
    have hSn : _ ∧ _ := (show ((fun W => W.cell? ⟨b, off + k * 8, none⟩ = some (.int .i64 p.1.area) ∧ W.cell? ⟨b, off + k * 8 + 1, none⟩ = some (.int .i64 p.1.kind) ∧ W.cell? ⟨b, off + k * 8 + 2, none⟩ = some (.int .i64 p.1.owner) ∧ W.cell? ⟨b, off + k * 8 + 3, none⟩ = some (.int .i64 p.1.key) ∧ W.cell? ⟨b, off + k * 8 + 4, none⟩ = some (.int .i64 p.1.seq) ∧ W.cell? ⟨b, off + k * 8 + 5, none⟩ = some (p.2) ∧ W.cell? ⟨b, off + k * 8 + 6, none⟩ = some (.int .i64 p.1.cost) ∧ W.cell? ⟨b, off + k * 8 + 7, none⟩ = some (.bool p.1.far) ∧ W.cell? ⟨w.heap.size, 0, none⟩ = some (.int .i64 r.1.area) ∧ W.cell? ⟨w.heap.size, 1, none⟩ = some (.int .i64 r.1.kind) ∧ W.cell? ⟨w.heap.size, 2, none⟩ = some (.int .i64 r.1.owner) ∧ W.cell? ⟨w.heap.size, 3, none⟩ = some (.int .i64 r.1.key) ∧ W.cell? ⟨w.heap.size, 4, none⟩ = some (.int .i64 r.1.seq) ∧ W.cell? ⟨w.heap.size, 5, none⟩ = some (r.2) ∧ W.cell? ⟨w.heap.size, 6, none⟩ = some (.int .i64 r.1.cost) ∧ W.cell? ⟨w.heap.size, 7, none⟩ = some (.bool r.1.far))) w1 from by
     obtain ⟨m0, m1, m2, m3, m4, m5, m6, m7, n0, n1, n2, n3, n4, n5, n6, n7⟩ := hHeld
     refine ⟨?_, ?_, ?_, ?_, ?_, ?_, ?_, ?_, ?_, ?_, ?_, ?_, ?_, ?_, ?_, ?_⟩ <;> (refine (b1.cell ?_).trans ?_ <;> assumption))
    refine hK.out _ _ hSn (fun hHeld => ?_)
    clear hK K hSn
    try simp only [putS]
    refine take_d 6 ?_ ?_ ?_ (by rw [hops.out]; kernel_rfl) ?_ ?_ (by assumption) ?_
    rotate_left 2
    ·rw [hops.out]; simp only [getS]; rfl
    ·intro W hW; (try dsimp only at hW); go_simp <;> with_reducible rfl
    ·exact fun _ _ _ => id
    try simp only [putS]
    refine take_skp 7 20 (by rw [hops.out]; kernel_rfl) (fun _ _ _ h => h) (by assumption) ?_
    try simp only [putS]
    refine take_skp 8 21 (by rw [hops.out]; kernel_rfl) (fun _ _ _ h => h) (by assumption) ?_
    try simp only [putS]
    refine take_skp 9 22 (by rw [hops.out]; kernel_rfl) (fun _ _ _ h => h) (by assumption) ?_
    try simp only [putS]
    refine take_skp 10 23 (by rw [hops.out]; kernel_rfl) (fun _ _ _ h => h) (by assumption) ?_
    try simp only [putS]
    refine take_skp 11 24 (by rw [hops.out]; kernel_rfl) (fun _ _ _ h => h) (by assumption) ?_
    try simp only [putS]
    refine take_skp 12 25 (by rw [hops.out]; kernel_rfl) (fun _ _ _ h => h) (by assumption) ?_
    try simp only [putS]
    refine take_skp 13 26 (by rw [hops.out]; kernel_rfl) (fun _ _ _ h => h) (by assumption) ?_
    try simp only [putS]
    refine take_d 14 ?_ ?_ ?_ (by rw [hops.out]; kernel_rfl) ?_ ?_ (by assumption) ?_
    rotate_left 2
    ·rw [hops.out]; simp only [getS]; rfl
    ·intro W hW; (try dsimp only at hW); go_simp <;> with_reducible rfl
    ·exact fun _ _ _ => id
    try simp only [putS]
    refine wpAnyH_done (by rw [hops.out]; kernel_rfl) ?_ _
    clear hops ops
    go_wp2
    go_roundw
    case rel => exact ⟨k + 1, m, by omega, by go_num, rfl, HN, hnx.drew.trans (b1.mono hsz)⟩
    case measure => simp [intOf]; omega
   ·by_cases hms : m < p.1.seq
    ·have HN := hide (show p.1.seq = newestD (fsts (ps.take (k + 1))) r.1 by rw [HPP.out, newStep_new HQQ.out.symm (by rw [← HM.out]; exact hms)])
     go_wp2
     refine wp_region_start (S := (fun W => W.cell? ⟨b, off + k * 8, none⟩ = some (.int .i64 p.1.area) ∧ W.cell? ⟨b, off + k * 8 + 1, none⟩ = some (.int .i64 p.1.kind) ∧ W.cell? ⟨b, off + k * 8 + 2, none⟩ = some (.int .i64 p.1.owner) ∧ W.cell? ⟨b, off + k * 8 + 3, none⟩ = some (.int .i64 p.1.key) ∧ W.cell? ⟨b, off + k * 8 + 4, none⟩ = some (.int .i64 p.1.seq) ∧ W.cell? ⟨b, off + k * 8 + 5, none⟩ = some (p.2) ∧ W.cell? ⟨b, off + k * 8 + 6, none⟩ = some (.int .i64 p.1.cost) ∧ W.cell? ⟨b, off + k * 8 + 7, none⟩ = some (.bool p.1.far) ∧ W.cell? ⟨w.heap.size, 0, none⟩ = some (.int .i64 r.1.area) ∧ W.cell? ⟨w.heap.size, 1, none⟩ = some (.int .i64 r.1.kind) ∧ W.cell? ⟨w.heap.size, 2, none⟩ = some (.int .i64 r.1.owner) ∧ W.cell? ⟨w.heap.size, 3, none⟩ = some (.int .i64 r.1.key) ∧ W.cell? ⟨w.heap.size, 4, none⟩ = some (.int .i64 r.1.seq) ∧ W.cell? ⟨w.heap.size, 5, none⟩ = some (r.2) ∧ W.cell? ⟨w.heap.size, 6, none⟩ = some (.int .i64 r.1.cost) ∧ W.cell? ⟨w.heap.size, 7, none⟩ = some (.bool r.1.far))) (by kernel_rfl) 15 rfl ⟨c0, c1, c2, c3, c4, c5, c6, c7, d0, d1, d2, d3, d4, d5, d6, d7⟩ (fun ops hops hHeld => ?_)
     refine take_d 0 ?_ ?_ ?_ (by rw [hops.out]; kernel_rfl) ?_ ?_ (by assumption) ?_
     rotate_left 2
     ·rw [hops.out]; simp only [getS]; rfl
     ·intro W hW; (try dsimp only at hW); go_simp <;> with_reducible rfl
     ·exact fun _ _ _ => id
     try simp only [putS]
     refine take_d 1 ?_ ?_ ?_ (by rw [hops.out]; kernel_rfl) ?_ ?_ (by assumption) ?_
     rotate_left 2
     ·rw [hops.out]; simp only [getS]; rfl
     ·intro W hW; (try dsimp only at hW); go_simp <;> with_reducible rfl
     ·exact fun _ _ _ => id
     try simp only [putS]
     refine take_d 2 ?_ ?_ ?_ (by rw [hops.out]; kernel_rfl) ?_ ?_ (by assumption) ?_
     rotate_left 2
     ·rw [hops.out]; simp only [getS]; rfl
     ·intro W hW; (try dsimp only at hW); go_simp <;> with_reducible rfl
     ·exact fun _ _ _ => id
     try simp only [putS]
     refine take_d 3 ?_ ?_ ?_ (by rw [hops.out]; kernel_rfl) ?_ ?_ (by assumption) ?_
     rotate_left 2
     ·rw [hops.out]; simp only [getS]; rfl
     ·intro W hW; (try dsimp only at hW); go_simp <;> with_reducible rfl
     ·exact fun _ _ _ => id
     try simp only [putS]
     refine take_d 4 ?_ ?_ ?_ (by rw [hops.out]; kernel_rfl) ?_ ?_ (by assumption) ?_
     rotate_left 2
     ·rw [hops.out]; simp only [getS]; rfl
     ·intro W hW; (try dsimp only at hW); go_simp <;> with_reducible rfl
     ·exact fun _ _ _ => id
     try simp only [putS]
     refine take_call 5 (oi := ?_) ?_ (by rw [hops.out]; kernel_rfl) ?_ ?_
     rotate_left 1
     ·rw [hops.out]; simp only [getS]; rfl
     ·rw [hops.out]; kernel_rfl
     intro K hK
     go_simp
     refine (HK.out _).mono ?_
     rintro e w1 ⟨rfl, b1⟩
     have hSn : _ ∧ _ := (show ((fun W => W.cell? ⟨b, off + k * 8, none⟩ = some (.int .i64 p.1.area) ∧ W.cell? ⟨b, off + k * 8 + 1, none⟩ = some (.int .i64 p.1.kind) ∧ W.cell? ⟨b, off + k * 8 + 2, none⟩ = some (.int .i64 p.1.owner) ∧ W.cell? ⟨b, off + k * 8 + 3, none⟩ = some (.int .i64 p.1.key) ∧ W.cell? ⟨b, off + k * 8 + 4, none⟩ = some (.int .i64 p.1.seq) ∧ W.cell? ⟨b, off + k * 8 + 5, none⟩ = some (p.2) ∧ W.cell? ⟨b, off + k * 8 + 6, none⟩ = some (.int .i64 p.1.cost) ∧ W.cell? ⟨b, off + k * 8 + 7, none⟩ = some (.bool p.1.far) ∧ W.cell? ⟨w.heap.size, 0, none⟩ = some (.int .i64 r.1.area) ∧ W.cell? ⟨w.heap.size, 1, none⟩ = some (.int .i64 r.1.kind) ∧ W.cell? ⟨w.heap.size, 2, none⟩ = some (.int .i64 r.1.owner) ∧ W.cell? ⟨w.heap.size, 3, none⟩ = some (.int .i64 r.1.key) ∧ W.cell? ⟨w.heap.size, 4, none⟩ = some (.int .i64 r.1.seq) ∧ W.cell? ⟨w.heap.size, 5, none⟩ = some (r.2) ∧ W.cell? ⟨w.heap.size, 6, none⟩ = some (.int .i64 r.1.cost) ∧ W.cell? ⟨w.heap.size, 7, none⟩ = some (.bool r.1.far))) w1 from by
      obtain ⟨m0, m1, m2, m3, m4, m5, m6, m7, n0, n1, n2, n3, n4, n5, n6, n7⟩ := hHeld
      refine ⟨?_, ?_, ?_, ?_, ?_, ?_, ?_, ?_, ?_, ?_, ?_, ?_, ?_, ?_, ?_, ?_⟩ <;> (refine (b1.cell ?_).trans ?_ <;> assumption))
     refine hK.out _ _ hSn (fun hHeld => ?_)
     clear hK K hSn
     try simp only [putS]
     refine take_d 6 ?_ ?_ ?_ (by rw [hops.out]; kernel_rfl) ?_ ?_ (by assumption) ?_
     rotate_left 2
     ·rw [hops.out]; simp only [getS]; rfl
     ·intro W hW; (try dsimp only at hW); go_simp <;> with_reducible rfl
     ·exact fun _ _ _ => id
     try simp only [putS]
     refine take_d 7 ?_ ?_ ?_ (by rw [hops.out]; kernel_rfl) ?_ ?_ (by assumption) ?_
     rotate_left 2
     ·rw [hops.out]; simp only [getS]; rfl
     ·intro W hW; (try dsimp only at hW); go_simp <;> with_reducible rfl
     ·exact fun _ _ _ => id
     try simp only [putS]
     refine take_d 8 ?_ ?_ ?_ (by rw [hops.out]; kernel_rfl) ?_ ?_ (by assumption) ?_
     rotate_left 2
     ·rw [hops.out]; simp only [getS]; rfl
     ·intro W hW; (try dsimp only at hW); go_simp <;> with_reducible rfl
     ·exact fun _ _ _ => id
     try simp only [putS]
     refine take_d 9 ?_ ?_ ?_ (by rw [hops.out]; kernel_rfl) ?_ ?_ (by assumption) ?_
     rotate_left 2
     ·rw [hops.out]; simp only [getS]; rfl
     ·intro W hW; (try dsimp only at hW); go_simp <;> with_reducible rfl
     ·exact fun _ _ _ => id
     try simp only [putS]
     refine take_d 10 ?_ ?_ ?_ (by rw [hops.out]; kernel_rfl) ?_ ?_ (by assumption) ?_
     rotate_left 2
     ·rw [hops.out]; simp only [getS]; rfl
     ·intro W hW; (try dsimp only at hW); go_simp <;> with_reducible rfl
     ·exact fun _ _ _ => id
     try simp only [putS]
     refine take_d 11 ?_ ?_ ?_ (by rw [hops.out]; kernel_rfl) ?_ ?_ (by assumption) ?_
     rotate_left 2
     ·rw [hops.out]; simp only [getS]; rfl
     ·intro W hW; (try dsimp only at hW); go_simp <;> with_reducible rfl
     ·exact fun _ _ _ => id
     try simp only [putS]
     refine take_d 12 ?_ ?_ ?_ (by rw [hops.out]; kernel_rfl) ?_ ?_ (by assumption) ?_
     rotate_left 2
     ·rw [hops.out]; simp only [getS]; rfl
     ·intro W hW; (try dsimp only at hW); go_simp <;> with_reducible rfl
     ·exact fun _ _ _ => id
     try simp only [putS]
     refine take_do 13 (oi := ?_) (v := .bool true) ?_ (by rw [hops.out]; kernel_rfl) ?_ ?_ ?_ (by assumption) ?_
     rotate_left 1
     ·rw [hops.out]; simp only [getS]; rfl
     ·rw [hops.out]; kernel_rfl
     ·intro W hW; (try dsimp only at hW); go_simp <;> (first | with_reducible rfl | (simp; omega) | omega)
     ·exact fun _ _ _ => id
     try simp only [putS]
     refine take_d 14 ?_ ?_ ?_ (by rw [hops.out]; kernel_rfl) ?_ ?_ (by assumption) ?_
     rotate_left 2
     ·rw [hops.out]; simp only [getS]; rfl
     ·intro W hW; (try dsimp only at hW); go_simp <;> with_reducible rfl
     ·exact fun _ _ _ => id
     try simp only [putS]
     refine wpAnyH_done (by rw [hops.out]; kernel_rfl) ?_ _
     clear hops ops
     obtain ⟨m0, m1, m2, m3, m4, m5, m6, m7, n0, n1, n2, n3, n4, n5, n6, n7⟩ := hHeld
     clear c0 c1 c2 c3 c4 c5 c6 c7 d0 d1 d2 d3 d4 d5 d6 d7
     go_wp2
     go_roundw
     case rel => exact ⟨k + 1, p.1.seq, by omega, by go_num, rfl, HN, hnx.drew.trans (b1.mono hsz)⟩
     case measure => simp [intOf]; omega
    ·have HN := hide (show m = newestD (fsts (ps.take (k + 1))) r.1 by rw [HPP.out, newStep_old (by rw [← HM.out]; exact hms)]; exact HM.out)
     go_wp2
     refine wp_region_start (S := (fun W => W.cell? ⟨b, off + k * 8, none⟩ = some (.int .i64 p.1.area) ∧ W.cell? ⟨b, off + k * 8 + 1, none⟩ = some (.int .i64 p.1.kind) ∧ W.cell? ⟨b, off + k * 8 + 2, none⟩ = some (.int .i64 p.1.owner) ∧ W.cell? ⟨b, off + k * 8 + 3, none⟩ = some (.int .i64 p.1.key) ∧ W.cell? ⟨b, off + k * 8 + 4, none⟩ = some (.int .i64 p.1.seq) ∧ W.cell? ⟨b, off + k * 8 + 5, none⟩ = some (p.2) ∧ W.cell? ⟨b, off + k * 8 + 6, none⟩ = some (.int .i64 p.1.cost) ∧ W.cell? ⟨b, off + k * 8 + 7, none⟩ = some (.bool p.1.far) ∧ W.cell? ⟨w.heap.size, 0, none⟩ = some (.int .i64 r.1.area) ∧ W.cell? ⟨w.heap.size, 1, none⟩ = some (.int .i64 r.1.kind) ∧ W.cell? ⟨w.heap.size, 2, none⟩ = some (.int .i64 r.1.owner) ∧ W.cell? ⟨w.heap.size, 3, none⟩ = some (.int .i64 r.1.key) ∧ W.cell? ⟨w.heap.size, 4, none⟩ = some (.int .i64 r.1.seq) ∧ W.cell? ⟨w.heap.size, 5, none⟩ = some (r.2) ∧ W.cell? ⟨w.heap.size, 6, none⟩ = some (.int .i64 r.1.cost) ∧ W.cell? ⟨w.heap.size, 7, none⟩ = some (.bool r.1.far))) (by kernel_rfl) 15 rfl ⟨c0, c1, c2, c3, c4, c5, c6, c7, d0, d1, d2, d3, d4, d5, d6, d7⟩ (fun ops hops hHeld => ?_)
     refine take_d 0 ?_ ?_ ?_ (by rw [hops.out]; kernel_rfl) ?_ ?_ (by assumption) ?_
     rotate_left 2
     ·rw [hops.out]; simp only [getS]; rfl
     ·intro W hW; (try dsimp only at hW); go_simp <;> with_reducible rfl
     ·exact fun _ _ _ => id
     try simp only [putS]
     refine take_d 1 ?_ ?_ ?_ (by rw [hops.out]; kernel_rfl) ?_ ?_ (by assumption) ?_
     rotate_left 2
     ·rw [hops.out]; simp only [getS]; rfl
     ·intro W hW; (try dsimp only at hW); go_simp <;> with_reducible rfl
     ·exact fun _ _ _ => id
     try simp only [putS]
     refine take_d 2 ?_ ?_ ?_ (by rw [hops.out]; kernel_rfl) ?_ ?_ (by assumption) ?_
     rotate_left 2
     ·rw [hops.out]; simp only [getS]; rfl
     ·intro W hW; (try dsimp only at hW); go_simp <;> with_reducible rfl
     ·exact fun _ _ _ => id
     try simp only [putS]
     refine take_d 3 ?_ ?_ ?_ (by rw [hops.out]; kernel_rfl) ?_ ?_ (by assumption) ?_
     rotate_left 2
     ·rw [hops.out]; simp only [getS]; rfl
     ·intro W hW; (try dsimp only at hW); go_simp <;> with_reducible rfl
     ·exact fun _ _ _ => id
     try simp only [putS]
     refine take_d 4 ?_ ?_ ?_ (by rw [hops.out]; kernel_rfl) ?_ ?_ (by assumption) ?_
     rotate_left 2
     ·rw [hops.out]; simp only [getS]; rfl
     ·intro W hW; (try dsimp only at hW); go_simp <;> with_reducible rfl
     ·exact fun _ _ _ => id
     try simp only [putS]
     refine take_call 5 (oi := ?_) ?_ (by rw [hops.out]; kernel_rfl) ?_ ?_
     rotate_left 1
     ·rw [hops.out]; simp only [getS]; rfl
     ·rw [hops.out]; kernel_rfl
     intro K hK
     go_simp
     refine (HK.out _).mono ?_
     rintro e w1 ⟨rfl, b1⟩
     have hSn : _ ∧ _ := (show ((fun W => W.cell? ⟨b, off + k * 8, none⟩ = some (.int .i64 p.1.area) ∧ W.cell? ⟨b, off + k * 8 + 1, none⟩ = some (.int .i64 p.1.kind) ∧ W.cell? ⟨b, off + k * 8 + 2, none⟩ = some (.int .i64 p.1.owner) ∧ W.cell? ⟨b, off + k * 8 + 3, none⟩ = some (.int .i64 p.1.key) ∧ W.cell? ⟨b, off + k * 8 + 4, none⟩ = some (.int .i64 p.1.seq) ∧ W.cell? ⟨b, off + k * 8 + 5, none⟩ = some (p.2) ∧ W.cell? ⟨b, off + k * 8 + 6, none⟩ = some (.int .i64 p.1.cost) ∧ W.cell? ⟨b, off + k * 8 + 7, none⟩ = some (.bool p.1.far) ∧ W.cell? ⟨w.heap.size, 0, none⟩ = some (.int .i64 r.1.area) ∧ W.cell? ⟨w.heap.size, 1, none⟩ = some (.int .i64 r.1.kind) ∧ W.cell? ⟨w.heap.size, 2, none⟩ = some (.int .i64 r.1.owner) ∧ W.cell? ⟨w.heap.size, 3, none⟩ = some (.int .i64 r.1.key) ∧ W.cell? ⟨w.heap.size, 4, none⟩ = some (.int .i64 r.1.seq) ∧ W.cell? ⟨w.heap.size, 5, none⟩ = some (r.2) ∧ W.cell? ⟨w.heap.size, 6, none⟩ = some (.int .i64 r.1.cost) ∧ W.cell? ⟨w.heap.size, 7, none⟩ = some (.bool r.1.far))) w1 from by
      obtain ⟨m0, m1, m2, m3, m4, m5, m6, m7, n0, n1, n2, n3, n4, n5, n6, n7⟩ := hHeld
      refine ⟨?_, ?_, ?_, ?_, ?_, ?_, ?_, ?_, ?_, ?_, ?_, ?_, ?_, ?_, ?_, ?_⟩ <;> (refine (b1.cell ?_).trans ?_ <;> assumption))
     refine hK.out _ _ hSn (fun hHeld => ?_)
     clear hK K hSn
     try simp only [putS]
     refine take_d 6 ?_ ?_ ?_ (by rw [hops.out]; kernel_rfl) ?_ ?_ (by assumption) ?_
     rotate_left 2
     ·rw [hops.out]; simp only [getS]; rfl
     ·intro W hW; (try dsimp only at hW); go_simp <;> with_reducible rfl
     ·exact fun _ _ _ => id
     try simp only [putS]
     refine take_d 7 ?_ ?_ ?_ (by rw [hops.out]; kernel_rfl) ?_ ?_ (by assumption) ?_
     rotate_left 2
     ·rw [hops.out]; simp only [getS]; rfl
     ·intro W hW; (try dsimp only at hW); go_simp <;> with_reducible rfl
     ·exact fun _ _ _ => id
     try simp only [putS]
     refine take_d 8 ?_ ?_ ?_ (by rw [hops.out]; kernel_rfl) ?_ ?_ (by assumption) ?_
     rotate_left 2
     ·rw [hops.out]; simp only [getS]; rfl
     ·intro W hW; (try dsimp only at hW); go_simp <;> with_reducible rfl
     ·exact fun _ _ _ => id
     try simp only [putS]
     refine take_d 9 ?_ ?_ ?_ (by rw [hops.out]; kernel_rfl) ?_ ?_ (by assumption) ?_
     rotate_left 2
     ·rw [hops.out]; simp only [getS]; rfl
     ·intro W hW; (try dsimp only at hW); go_simp <;> with_reducible rfl
     ·exact fun _ _ _ => id
     try simp only [putS]
     refine take_d 10 ?_ ?_ ?_ (by rw [hops.out]; kernel_rfl) ?_ ?_ (by assumption) ?_
     rotate_left 2
     ·rw [hops.out]; simp only [getS]; rfl
     ·intro W hW; (try dsimp only at hW); go_simp <;> with_reducible rfl
     ·exact fun _ _ _ => id
     try simp only [putS]
     refine take_d 11 ?_ ?_ ?_ (by rw [hops.out]; kernel_rfl) ?_ ?_ (by assumption) ?_
     rotate_left 2
     ·rw [hops.out]; simp only [getS]; rfl
     ·intro W hW; (try dsimp only at hW); go_simp <;> with_reducible rfl
     ·exact fun _ _ _ => id
     try simp only [putS]
     refine take_d 12 ?_ ?_ ?_ (by rw [hops.out]; kernel_rfl) ?_ ?_ (by assumption) ?_
     rotate_left 2
     ·rw [hops.out]; simp only [getS]; rfl
     ·intro W hW; (try dsimp only at hW); go_simp <;> with_reducible rfl
     ·exact fun _ _ _ => id
     try simp only [putS]
     refine take_do 13 (oi := ?_) (v := .bool false) ?_ (by rw [hops.out]; kernel_rfl) ?_ ?_ ?_ (by assumption) ?_
     rotate_left 1
     ·rw [hops.out]; simp only [getS]; rfl
     ·rw [hops.out]; kernel_rfl
     ·intro W hW; (try dsimp only at hW); go_simp <;> (first | with_reducible rfl | (simp; omega) | omega)
     ·exact fun _ _ _ => id
     try simp only [putS]
     refine take_d 14 ?_ ?_ ?_ (by rw [hops.out]; kernel_rfl) ?_ ?_ (by assumption) ?_
     rotate_left 2
     ·rw [hops.out]; simp only [getS]; rfl
     ·intro W hW; (try dsimp only at hW); go_simp <;> with_reducible rfl
     ·exact fun _ _ _ => id
     try simp only [putS]
     refine wpAnyH_done (by rw [hops.out]; kernel_rfl) ?_ _
     clear hops ops
     go_wp2
     go_roundw
     case rel => exact ⟨k + 1, m, by omega, by go_num, rfl, HN, hnx.drew.trans (b1.mono hsz)⟩
     case measure => simp [intOf]; omega
  ·have HN := hide (show m = NN by
    rw [HM.out, HNN.out, List.take_of_length_le (by omega)])
   go_wp2
   go_ret
   exact ⟨by rw [HN.out]; rfl, BWR⟩
theorem sameStore_any (v1 v2 : Value) (ps qs : List RP) (hi : Nat) (w : World) (h1 : RecsIn w hi v1 ps) (h2 : RecsIn w hi v2 qs) (he : fsts ps = fsts qs) (hhi : hi ≤ w.heap.size) (hn : tot ps ≤ 1048576) :
  Calls Tryz.prog 13 #[v1, v2] w fun e w' => e = .returned (.bool true) ∧ Below w.heap.size w w' := by
 have hnl := tot_len ps
 have hel : ps.length = qs.length := by have := congrArg List.length he; simpa [fsts] using this
 obtain ⟨a1, c1, rfl⟩ := owns_lenS h1.row
 obtain ⟨a2, c2, rfl⟩ := owns_lenS h2.row
 have HV := hide h1
 have HW := hide h2
 have HE := hide he
 have hei : (ps.length : Int) = (qs.length : Int) := by omega
 have HEL := hide hel
 clear h1 h2 he hel
 go_enter Tryz.func13, Tryz.ntmps13
 go_wp2
 go_loopw [5] (fun i wr => ∃ (k : Nat), k ≤ ps.length ∧ i = .int .i64 k ∧ Below w.heap.size w wr) (fun i _ => ps.length - (intOf i).toNat)
 case atStart => exact ⟨0, by omega, rfl, Below.refl _ _⟩
 case round =>
  obtain ⟨k, hk, rfl, hnx⟩ := hrel
  have hsz := hnx.size
  by_cases hlt : k < ps.length
  ·obtain ⟨p, hp⟩ : ∃ p, ps[k]? = some p := ⟨ps[k], List.getElem?_eq_getElem hlt⟩
   obtain ⟨q, hq⟩ : ∃ q, qs[k]? = some q := ⟨qs[k]'(by have := HEL.out; omega), List.getElem?_eq_getElem (by have := HEL.out; omega)⟩
   have hpq : p.1 = q.1 := by
    have e1 := fsts_at hp
    have e2 := fsts_at hq
    rw [HE.out, e2] at e1
    exact (Option.some.inj e1).symm
   obtain ⟨b, off, cap', hve, hbb, c0, c1, c2, c3, c4, c5, c6, c7, hn1⟩ := HV.out.at.cells k p hp
   cases hve
   obtain ⟨b2, off2, cap2, hve2, hbb2, d0, d1, d2, d3, d4, d5, d6, d7, hn2⟩ := HW.out.at.cells k q hq
   cases hve2
   rw [← hnx.cell (p := ⟨b, off + k * 8, none⟩) (Nat.lt_of_lt_of_le hbb hhi)] at c0
   rw [← hnx.cell (p := ⟨b, off + k * 8 + 1, none⟩) (Nat.lt_of_lt_of_le hbb hhi)] at c1
   rw [← hnx.cell (p := ⟨b, off + k * 8 + 2, none⟩) (Nat.lt_of_lt_of_le hbb hhi)] at c2
   rw [← hnx.cell (p := ⟨b, off + k * 8 + 3, none⟩) (Nat.lt_of_lt_of_le hbb hhi)] at c3
   rw [← hnx.cell (p := ⟨b, off + k * 8 + 4, none⟩) (Nat.lt_of_lt_of_le hbb hhi)] at c4
   rw [← hnx.cell (p := ⟨b, off + k * 8 + 5, none⟩) (Nat.lt_of_lt_of_le hbb hhi)] at c5
   rw [← hnx.cell (p := ⟨b, off + k * 8 + 6, none⟩) (Nat.lt_of_lt_of_le hbb hhi)] at c6
   rw [← hnx.cell (p := ⟨b, off + k * 8 + 7, none⟩) (Nat.lt_of_lt_of_le hbb hhi)] at c7
   rw [← hnx.cell (p := ⟨b2, off2 + k * 8, none⟩) (Nat.lt_of_lt_of_le hbb2 hhi)] at d0
   rw [← hnx.cell (p := ⟨b2, off2 + k * 8 + 1, none⟩) (Nat.lt_of_lt_of_le hbb2 hhi)] at d1
   rw [← hnx.cell (p := ⟨b2, off2 + k * 8 + 2, none⟩) (Nat.lt_of_lt_of_le hbb2 hhi)] at d2
   rw [← hnx.cell (p := ⟨b2, off2 + k * 8 + 3, none⟩) (Nat.lt_of_lt_of_le hbb2 hhi)] at d3
   rw [← hnx.cell (p := ⟨b2, off2 + k * 8 + 4, none⟩) (Nat.lt_of_lt_of_le hbb2 hhi)] at d4
   rw [← hnx.cell (p := ⟨b2, off2 + k * 8 + 5, none⟩) (Nat.lt_of_lt_of_le hbb2 hhi)] at d5
   rw [← hnx.cell (p := ⟨b2, off2 + k * 8 + 6, none⟩) (Nat.lt_of_lt_of_le hbb2 hhi)] at d6
   rw [← hnx.cell (p := ⟨b2, off2 + k * 8 + 7, none⟩) (Nat.lt_of_lt_of_le hbb2 hhi)] at d7
   have hb1 : b < wr.heap.size := by omega
   have hb2 : b2 < wr.heap.size := by omega
   have hki : (0 : Int) ≤ (k : Int) := by omega
   have hkj : (k : Int) < (ps.length : Int) := by omega
   have hkq : (k : Int) < (qs.length : Int) := by omega
   have HSM := hide (fun W (hb : Below w.heap.size w W) => same_any p.1 p.2 q.2 W ((RowAt.later hn1 hb hhi).more (by have := hb.size; omega)) ((RowAt.later (B := hi) (by rw [hpq]; exact hn2) hb hhi).more (by have := hb.size; omega)) (by have := tot_mem (List.mem_of_getElem? hp); omega))
   unfold recC at HSM
   rw [← hpq] at d0 d1 d2 d3 d4 d6 d7
   have hnd : Below w.heap.size w wr.drew := hnx.drew
   clear hp hq hpq hn1 hn2 hei
   go_wp2
   go_region_held3 (fun W => W.cell? ⟨b, off + k * 8, none⟩ = some (.int .i64 p.1.area) ∧ W.cell? ⟨b, off + k * 8 + 1, none⟩ = some (.int .i64 p.1.kind) ∧ W.cell? ⟨b, off + k * 8 + 2, none⟩ = some (.int .i64 p.1.owner) ∧ W.cell? ⟨b, off + k * 8 + 3, none⟩ = some (.int .i64 p.1.key) ∧ W.cell? ⟨b, off + k * 8 + 4, none⟩ = some (.int .i64 p.1.seq) ∧ W.cell? ⟨b, off + k * 8 + 5, none⟩ = some (p.2) ∧ W.cell? ⟨b, off + k * 8 + 6, none⟩ = some (.int .i64 p.1.cost) ∧ W.cell? ⟨b, off + k * 8 + 7, none⟩ = some (.bool p.1.far) ∧ W.cell? ⟨b2, off2 + k * 8, none⟩ = some (.int .i64 p.1.area) ∧ W.cell? ⟨b2, off2 + k * 8 + 1, none⟩ = some (.int .i64 p.1.kind) ∧ W.cell? ⟨b2, off2 + k * 8 + 2, none⟩ = some (.int .i64 p.1.owner) ∧ W.cell? ⟨b2, off2 + k * 8 + 3, none⟩ = some (.int .i64 p.1.key) ∧ W.cell? ⟨b2, off2 + k * 8 + 4, none⟩ = some (.int .i64 p.1.seq) ∧ W.cell? ⟨b2, off2 + k * 8 + 5, none⟩ = some (q.2) ∧ W.cell? ⟨b2, off2 + k * 8 + 6, none⟩ = some (.int .i64 p.1.cost) ∧ W.cell? ⟨b2, off2 + k * 8 + 7, none⟩ = some (.bool p.1.far)) (first | go_keep | (refine ⟨?_, ?_, ?_, ?_, ?_, ?_, ?_, ?_, ?_, ?_, ?_, ?_, ?_, ?_, ?_, ?_⟩ <;> (rw [hbc.cell (by assumption)]; assumption))) (first | (go_at_call 15; refine (HSM.out _ hnd).mono ?_; rintro e w1 ⟨rfl, hbc⟩))
   go_wp2
   go_roundw
   case rel => exact ⟨k + 1, by omega, by go_num, hnd.trans (hbc.mono hsz)⟩
   case measure => simp [intOf]; omega
  ·go_wp2
   go_ret
   exact ⟨rfl, hnx⟩
theorem results_cell_row_tmp5 {P : Program} {fn : Func} {p u : Tmp} {ty : TypeId} (h : fn.results = #[.cell p ty, .tmp u]) (tmps : Array Value) (w : World) (g : Nat) (t : TypeId) (cs : Array Value) (fr : Nat × Nat) (d : TypeDesc)
  (hp : tmps.getD p undef = .pointer (some ⟨g, 0, none⟩)) (hg : w.heap[g]? = some (.cells cs t fr))
  (hu : P.underlying ty = some d) (hd : (match d with | .struct _ | .array _ _ => true | _ => false) = true) (hi : (P.info? ty).map (·.size) = some cs.size) :
  (results fn tmps).run P w = .ok (.tuple #[.agg cs, tmps.getD u undef]) w := by
 have hp' : tmps[p]?.getD undef = .pointer (some ⟨g, 0, none⟩) := by simpa using hp
 rw [results_cell_tmp h]
 simp [hp', asAddr, run_loadVar_row w g t ty cs fr d hg hu hd hi]
def findD (xs : List RecD) (r : RecD) : RecD := if atZ xs r < 0 then zeroRD else xs.getD (atZ xs r).toNat zeroRD
def findB (xs : List RecD) (r : RecD) : Bool := !decide (atZ xs r < 0)
theorem find_none {xs : List RecD} {r : RecD} (h : atZ xs r = -1) : findD xs r = zeroRD ∧ findB xs r = false := by unfold findD findB; rw [h]; exact ⟨rfl, rfl⟩
theorem find_at {xs : List RecD} {r y : RecD} {k : Nat} (h : atZ xs r = (k : Int)) (hy : xs[k]? = some y) : findD xs r = y ∧ findB xs r = true := by
 unfold findD findB
 rw [h, if_neg (by omega)]
 exact ⟨by simp [hy], by simp⟩
theorem fsts_some5 {ps : List RP} {k : Nat} {y : RecD} (h : (fsts ps)[k]? = some y) : ∃ p, ps[k]? = some p ∧ p.1 = y := by
 simp [fsts] at h
 obtain ⟨v, hv⟩ := h
 exact ⟨(y, v), hv, rfl⟩
end Go.Proofs.YtmijnjnihhemgaaGreat
