/-
  impl.merged: a list put into a right store, and what of it is new.
  cmp.Compare, cmp.Or, impl.orderOfLinks, impl.orderOfThings: their contracts.
  spec.LinkOk, l03Ahead, l03Thing, NetOk: their contracts.
  impl.isIn, impl.LinkOk: their contracts.
-/
import Derived.Test.YtcimbiinljcifaaGreatLe21
import Derived.Test.YtcimbiinljcifaaGreatLe14
import Derived.Test.YtcimbiinljcifaaGreatLe8
import Derived.Test.YtcimbiinljcifaaGreatLe1
import Derived.Deep.RegionHeld3
import Derived.Test.YtcimbiinljcifaaGreatLe7
import Derived.Test.YtcimbiinljcifaaGreatLe2
namespace Go.Proofs.YtcimbiinljcifaaGreat
open Go.RowKit

set_option linter.unusedSimpArgs false

def instD (xs : List RecD) (r : RecD) : List RecD := if takesB xs r then putD xs r else xs

theorem instL_fsts (ps : List RP) (r : RP) : fsts (instL ps r) = instD (fsts ps) r.1 := by
  unfold instL instD
  cases takesB (fsts ps) r.1
  · rfl
  · exact putL_fsts ps r

theorem fold_fsts (ps ts : List RP) : fsts (ts.foldl instL ps) = (fsts ts).foldl instD (fsts ps) := by
  induction ts generalizing ps with
  | nil => rfl
  | cons t ts ih => rw [List.foldl_cons, ih, instL_fsts]; rfl

theorem asc_filter {xs : List RecD} (h : Asc xs) (f : RecD → Bool) : Asc (xs.filter f) := List.Pairwise.filter f h

theorem asc_putD {xs : List RecD} (h : Asc xs) (r : RecD) : Asc (putD xs r) := by
  unfold putD Asc
  rw [List.append_assoc, List.pairwise_append]
  refine ⟨asc_filter h _, ?_, ?_⟩
  · rw [List.pairwise_append]
    refine ⟨by simp, asc_filter h _, ?_⟩
    intro a ha b hb
    have : a = r := by simpa using ha
    subst this
    simpa using (List.mem_filter.1 hb).2
  · intro a ha b hb
    have h1 : beforeB a r = true := by simpa using (List.mem_filter.1 ha).2
    rcases List.mem_append.1 hb with h2 | h2
    · have : b = r := by simpa using h2
      subst this
      exact h1
    · have h3 : beforeB r b = true := by simpa using (List.mem_filter.1 h2).2
      exact bef_trans h1 h3

theorem store_asc_of {xs : List RecD} (h : storeB xs = true) : Asc xs := by
  unfold storeB at h
  simp only [Bool.and_eq_true] at h
  exact asc_of h.2

/-- what of a list is new to a store, in its order -/
def newsD (xs : List RecD) : List RecD → List RecD
  | [] => []
  | t :: ts => if takesB xs t then t :: newsD (putD xs t) ts else newsD xs ts

theorem newsD_snoc (xs ts : List RecD) (t : RecD) : newsD xs (ts ++ [t]) = newsD xs ts ++ (if takesB (ts.foldl instD xs) t then [t] else []) := by
  induction ts generalizing xs with
  | nil =>
    simp only [List.nil_append, newsD, List.foldl_nil]
    rfl
  | cons u ts ih =>
    by_cases h : takesB xs u = true
    · have e : instD xs u = putD xs u := by unfold instD; rw [if_pos h]
      simp only [List.cons_append, newsD, List.foldl_cons, h, if_true, e, ih]
    · have e : instD xs u = xs := by unfold instD; rw [if_neg h]
      simp only [List.cons_append, newsD, List.foldl_cons, if_neg h, e, ih]

theorem fsts_take_succ {ts : List RP} {k : Nat} {p : RP} (h : ts[k]? = some p) : fsts (ts.take (k + 1)) = fsts (ts.take k) ++ [p.1] := map_take h

theorem tot_news (xs : List RecD) (ts : List RecD) : totD (newsD xs ts) ≤ totD ts := by
  induction ts generalizing xs with
  | nil => simp [newsD]
  | cons t ts ih =>
    simp only [newsD]
    split
    · rw [totD_cons, totD_cons]; have := ih (putD xs t); omega
    · rw [totD_cons]; have := ih xs; omega

/-- two lists that share no block -/
def Sep (u : Value) (l : List RP) (y : Value) (ns : List RP) : Prop := ∀ k, BlkOf u l k → ¬ BlkOf y ns k

theorem append_struct7 {α : Type} {enc : α → List Value} {sz bytes : Nat} (hlen : ∀ a, (enc a).length = sz) (hpos : 0 < sz) (hbb : bytes ≤ 100) {P : Program} (w : World) {ops : Array Oper} {rest : List Oper} {o : Oper} {a : Act} {Q : Exit → Act → World → Prop} (hgd : o.guard = none) (s x : Operand) (t : TypeId)
    (ho : o.op = .call { callee := .builtin .append, args := #[s, x], argTypes := #[t, t] }) (base : Nat) (e : TypeId) (ht : P.underlying t = some (.slice e)) (zv : Value) (hzv : zv.cells.size = sz)
    (hinfo : (P.info? e).map (fun i => (i.zero, i.size, i.bytes)) = some (some zv, sz, bytes))
    (v : Value) (l : List α) (y : α) (hone : ∀ u ∈ enc y, u.oneCell' = true) (hs : a.eval s = v) (hown : w.ownsRow base e sz v l.length (flat enc l))
    (ad : Addr) (c : Nat) (hx : a.eval x = .slice (some ad) 1 c) (hnews : ∀ j u, (enc y)[j]? = some u → w.cell? (ad.add j) = some u)
    (hl : l.length + 1 ≤ 1000000000) (hbase : base ≤ w.heap.size)
    (h : ∀ v' w', w'.ownsRow base e sz v' (l ++ [y]).length (flat enc (l ++ [y])) → GrownV w w' v.ownBlock v' → wpList P ops Q rest (a.put o.dst v') w') : wpList P ops Q (o :: rest) a w := by
  obtain ⟨i0, hi, hz0, hz1, hz2⟩ := info_parts hinfo
  have hby : (l.length + 1) * bytes ≤ 140737488355328 := by
    have : (l.length + 1) * bytes ≤ 1000000000 * 100 := Nat.mul_le_mul hl hbb
    omega
  obtain ⟨v', w', hr, h2, h3, _⟩ := run_append_own (P := P) w base t o.type e i0 zv sz bytes ht hi hz0 hz1 hz2 hzv hpos v l.length (flat enc l) hown ad 1 c (enc y) (by rw [hlen]; omega) hnews hone (by unfold maxLen; omega) hby hbase
  have h4 := append_blk (P := P) w base t o.type e i0 zv ht hi hz0 v l.length (flat enc l) (by rw [hz1]; exact hown) ad 1 c (enc y) (by rw [hlen, hz1]; omega) hnews hone (by omega) (by unfold maxLen; omega) (by rw [hz2]; exact hby) hr
  have e1 : flat enc l ++ enc y = flat enc (l ++ [y]) := by rw [flat_append]; simp [flat]
  rw [e1] at h2
  exact Lib.wpList_append_run w hgd s x t t ho v _ hs hx v' w' hr (h v' w' (by simpa using h2) ⟨h3, h4⟩)

set_option maxRecDepth 100000 in
set_option maxHeartbeats 4000000 in
theorem merged_any (v v2 : Value) (ps ts : List RP) (hi : Nat) (w : World) (hv : RecsIn w hi v ps) (ht : RecsIn w hi v2 ts) (hhi : hi ≤ w.heap.size) (hn : tot ps + tot ts ≤ 1048576) (hst : Asc (fsts ps)) :
    Calls Tryz.prog 29 #[v, v2] w fun e w' => ∃ x y qs ns, e = .returned (.tuple #[x, y]) ∧ fsts qs = (fsts ts).foldl instD (fsts ps) ∧ fsts ns = newsD (fsts ps) (fsts ts) ∧ RecsOwn w' w.heap.size w'.heap.size x qs ∧ RecsOwn w' w.heap.size w'.heap.size y ns ∧ Sep x qs y ns ∧ Below w.heap.size w w' := by
  have hnt := tot_len ts
  obtain ⟨a1, c1, rfl⟩ := owns_lenS hv.row
  obtain ⟨ta, tc, rfl⟩ := owns_lenS ht.row
  have HOW := hide (ownList_any (.slice a1 ps.length c1) ps hi w hv hhi (by omega))
  have HT := hide ht
  have HS := hide hst
  clear hv ht hst
  go_enter Tryz.func29, Tryz.ntmps29
  go_wp2_with fail
  refine HOW.out.mono ?_
  rintro e w1 ⟨x1, q1, rfl, f1, o1, b1⟩
  obtain ⟨xa, xc, rfl⟩ := owns_lenS o1.row
  have F1 := hide f1
  have A1 := hide (show Asc (fsts q1) by rw [f1]; exact HS.out)
  have BL1 := (Below.refl w1.heap.size w1).alloc (Nat.le_refl _) (.cells #[] 40)
  have O1 := hide ((o1.below BL1 (Nat.le_refl _)).wide (Nat.le_refl _) BL1.size)
  have L1 := hide (recs_lit w1 w.heap.size b1.size)
  have SP1 := hide (show Sep (.slice xa q1.length xc) q1 (.slice (some ⟨w1.heap.size, 0, none⟩) 0 0) [] from fun k h1 h2 => by
    have h3 := (o1.blk k h1).2.2
    rcases h2 with h2 | ⟨p, hp, _⟩
    · simp [Value.ownBlock] at h2; omega
    · simp at hp)
  have B1 : Below w.heap.size w (w1.alloc (.cells #[] 40)) := b1.alloc b1.size _
  clear f1 o1 b1 BL1
  go_wp2
  go_loopw [15, 6, 7] (fun i o z wr => ∃ (k : Nat) (u y : Value) (l ns : List RP), k ≤ ts.length ∧ i = .int .i64 k ∧ o = u ∧ z = y ∧ Hid (fsts l = fsts ((ts.take k).foldl instL ps)) ∧ Hid (fsts ns = newsD (fsts ps) (fsts (ts.take k))) ∧ RecsOwn wr w.heap.size wr.heap.size u l ∧ RecsOwn wr w.heap.size wr.heap.size y ns ∧ Hid (Sep u l y ns) ∧ Hid (Asc (fsts l)) ∧ Below w.heap.size w wr) (fun i _ _ _ => ts.length - (intOf i).toNat)
  case atStart => exact ⟨0, _, _, q1, [], by omega, rfl, rfl, rfl, F1, hide rfl, O1.out, L1.out, SP1, A1, B1⟩
  case round =>
    obtain ⟨k, u, y, l, ns, hk, rfl, rfl, rfl, HL, HNS, hown, hnew, HSP, HA, hnx⟩ := hrel
    obtain ⟨ua, uc, rfl⟩ := owns_lenS hown.row
    obtain ⟨ya, yc, rfl⟩ := owns_lenS hnew.row
    have hsz := hnx.size
    have hlt0 : tot l ≤ 1048576 := by
      rw [tot_map HL.out]
      have h1 := tot_fold ps (ts.take k)
      have h2 := tot_append (ts.take k) (ts.drop k)
      rw [List.take_append_drop] at h2
      omega
    have hns0 : ns.length ≤ 1048576 := by
      have h1 := tot_news (fsts ps) (fsts (ts.take k))
      rw [← HNS.out, ← tot_D, ← tot_D] at h1
      have h2 := tot_append (ts.take k) (ts.drop k)
      rw [List.take_append_drop] at h2
      have := tot_len ns
      omega
    by_cases hlt : k < ts.length
    · have hkj : (k : Int) < (ts.length : Int) := by omega
      have hki : (0 : Int) ≤ (k : Int) := by omega
      obtain ⟨p, hp⟩ : ∃ p, ts[k]? = some p := ⟨ts[k], List.getElem?_eq_getElem hlt⟩
      obtain ⟨b, off, cap', hve, hbb, c0, c1, c2, c3, c4, c5, c6, c7, hnr⟩ := HT.out.at.cells k p hp
      cases hve
      obtain ⟨pa, pc, hpn⟩ := NearsAt.shape hnr
      rw [hpn] at c5
      have hbw : b < w.heap.size := by omega
      rw [← hnx.cell (p := ⟨b, off + k * 8, none⟩) hbw] at c0
      rw [← hnx.cell (p := ⟨b, off + k * 8 + 1, none⟩) hbw] at c1
      rw [← hnx.cell (p := ⟨b, off + k * 8 + 2, none⟩) hbw] at c2
      rw [← hnx.cell (p := ⟨b, off + k * 8 + 3, none⟩) hbw] at c3
      rw [← hnx.cell (p := ⟨b, off + k * 8 + 4, none⟩) hbw] at c4
      rw [← hnx.cell (p := ⟨b, off + k * 8 + 5, none⟩) hbw] at c5
      rw [← hnx.cell (p := ⟨b, off + k * 8 + 6, none⟩) hbw] at c6
      rw [← hnx.cell (p := ⟨b, off + k * 8 + 7, none⟩) hbw] at c7
      have hno := ((HT.out.nears p (List.mem_of_getElem? hp)).keep (W' := wr) (fun j _ h2 _ => hnx.block j (by omega))).wide (Nat.le_refl _) (show hi ≤ wr.heap.size by omega)
      have hpl : p.1.near.length ≤ 1048576 := by have := tot_mem (List.mem_of_getElem? hp); omega
      have BY : Below wr.heap.size wr (wr.alloc (.cells #[.int .i64 p.1.area, .int .i64 p.1.kind, .int .i64 p.1.owner, .int .i64 p.1.key, .int .i64 p.1.seq, .slice pa p.1.near.length pc, .int .i64 p.1.cost, .bool p.1.far] 40)) := (Below.refl _ _).alloc (Nat.le_refl _) _
      have hy := heap_alloc_new wr (.cells #[.int .i64 p.1.area, .int .i64 p.1.kind, .int .i64 p.1.owner, .int .i64 p.1.key, .int .i64 p.1.seq, .slice pa p.1.near.length pc, .int .i64 p.1.cost, .bool p.1.far] 40)
      obtain ⟨wy, hwy⟩ : ∃ W, W = wr.alloc (.cells #[.int .i64 p.1.area, .int .i64 p.1.kind, .int .i64 p.1.owner, .int .i64 p.1.key, .int .i64 p.1.seq, .slice pa p.1.near.length pc, .int .i64 p.1.cost, .bool p.1.far] 40) := ⟨_, rfl⟩
      rw [← hwy] at BY hy
      have hys := lt_of_heap hy
      have HTK := hide (takes_any (.slice ua l.length uc) l wr.heap.size p wy (hown.in.below BY (Nat.le_refl _)) BY.size hlt0 (hno.keep (fun j _ h2 _ => BY.block j h2)) hpl)
      have HOR := hide (fun W (hb : Below w.heap.size w W) => ownRec_any p.1 p.2 0 W ((HT.out.nears p (List.mem_of_getElem? hp)).keep (W' := W) (fun j _ h2 _ => hb.block j (by omega))).1 hpl)
      have HPT := hide (fun (v' : Value) W (h1 : RecsOwn W w.heap.size W.heap.size (.slice ua l.length uc) l) h2 h3 h4 => iput_fine (.slice ua l.length uc) l w.heap.size (p.1, v') W h1 h2 hlt0 HA.out h3 h4)
      have HFT := hide (fold_take ps hp)
      have HNT := hide (show newsD (fsts ps) (fsts (ts.take (k + 1))) = newsD (fsts ps) (fsts (ts.take k)) ++ (if takesB (fsts l) p.1 then [p.1] else []) by rw [fsts_take_succ hp, newsD_snoc, ← fold_fsts, ← HL.out])
      unfold recC at *
      rw [hpn] at HTK HOR
      have OWN := hide hown
      have NEW := hide hnew
      obtain ⟨T, hT⟩ : ∃ T, T = takesB (fsts l) p.1 := ⟨_, rfl⟩
      rw [← hT] at HTK HNT
      have HTT := hide hT
      clear hT hnr hno hpn hp hown hnew
      go_wp2_with fail
      rw [← hwy]
      clear hwy
      refine HTK.out.mono ?_
      rintro e w3 ⟨rfl, b3⟩
      have b3s := b3.size
      have bys := BY.size
      have B3 : Below wr.heap.size wr w3 := BY.trans (b3.mono BY.size)
      have hy3 := (b3.block _ hys).trans hy
      have d0 := cells_at hy3 0
      have d1 := cells_at hy3 1
      have d2 := cells_at hy3 2
      have d3 := cells_at hy3 3
      have d4 := cells_at hy3 4
      have d5 := cells_at hy3 5
      have d6 := cells_at hy3 6
      have d7 := cells_at hy3 7
      simp at d0 d1 d2 d3 d4 d5 d6 d7
      clear hy b3 HTK c0 c1 c2 c3 c4 c5 c6 c7
      cases T
      · have HN := hide (show fsts l = fsts ((ts.take (k + 1)).foldl instL ps) by rw [HFT.out, instL_fsts, ← HL.out]; unfold instD; rw [← HTT.out]; rfl)
        have HN2 := hide (show fsts ns = newsD (fsts ps) (fsts (ts.take (k + 1))) by rw [HNT.out, HNS.out]; simp)
        have OW3 := hide ((OWN.out.below B3 (Nat.le_refl _)).wide (Nat.le_refl _) (show wr.heap.size ≤ w3.heap.size by omega))
        have NW3 := hide ((NEW.out.below B3 (Nat.le_refl _)).wide (Nat.le_refl _) (show wr.heap.size ≤ w3.heap.size by omega))
        go_wp2
        go_roundw
        case rel => exact ⟨k + 1, _, _, l, ns, by omega, by go_num, rfl, rfl, HN, HN2, OW3.out, NW3.out, HSP, HA, hnx.trans (B3.mono hsz)⟩
        case measure => simp [intOf]; omega
      · have HN := hide (show ∀ l' : List RP, fsts l' = putD (fsts l) p.1 → fsts l' = fsts ((ts.take (k + 1)).foldl instL ps) ∧ Asc (fsts l') from fun l' h => by
          rw [HFT.out, instL_fsts, ← HL.out, h]
          refine ⟨?_, asc_putD HA.out _⟩
          unfold instD
          rw [← HTT.out]
          rfl)
        go_wp2_with fail
        refine (HOR.out _ (hnx.trans (B3.mono hsz))).mono ?_
        rintro e w4 ⟨n1, rfl, o4, b4⟩
        have b4s := b4.size
        have B4 : Below wr.heap.size wr w4 := B3.trans (b4.mono (by omega))
        have hy4 := (b4.block _ (lt_of_heap hy3)).trans hy3
        have hr4 : NearOwn w4 w.heap.size w4.heap.size (p.1, n1) := ⟨owns_baseS o4 (by omega), fun k hk => (o4.lt k hk).2⟩
        have hap : ∀ q ∈ l, Apart q (p.1, n1) := fun q hq k h1 h2 => by
          have h3 := (OWN.out.nears q hq).2 k h1
          have h4 := (o4.lt k h2).1
          omega
        have hn1 : ∀ k, n1.ownBlock = some k → wr.heap.size ≤ k ∧ k < w4.heap.size := fun k hk => ⟨by have := (o4.lt k hk).1; omega, (o4.lt k hk).2⟩
        have HP4 := HPT.out n1 w4 ((OWN.out.below B4 (Nat.le_refl _)).wide (Nat.le_refl _) (by omega)) (by omega) hr4 hap
        have NW4 := hide (NEW.out.below B4 (Nat.le_refl _))
        obtain ⟨na, nc, rfl⟩ := owns_lenS o4
        have HP5 := hide HP4
        have HN1 := hide hn1
        clear HP4 hap hr4 o4 HPT hn1 d0 d1 d2 d3 d4 d5 d6 d7 hy3
        go_wp2_with fail
        refine HP5.out.mono ?_
        rintro e w5 ⟨x5, q5, rfl, f5, o5, b5, pf5⟩
        obtain ⟨x5a, x5c, rfl⟩ := owns_lenS o5.row
        have N5 := HN.out q5 f5
        have NF := hide N5.1
        have NA := hide N5.2
        have O5 := hide o5
        have b5s := b5.size
        have B5 : Below w.heap.size w w5 := (hnx.trans (B4.mono hsz)).trans b5
        have hv5 : ∀ k, (Value.slice ua l.length uc).ownBlock = some k → k < wr.heap.size := fun k hk => (OWN.out.blk k (.inl hk)).2.2
        have hy5 := (pf5.keep _ (lt_of_heap hy4) (fun e => by have := hv5 _ e; omega)).trans hy4
        have NW5 := hide (NW4.out.keepS (W' := w5) (fun k hk => pf5.keep k (by have := (NEW.out.blk k hk).2.2; omega) (fun e => HSP.out k (.inl e) hk)))
        have BK5 := hide (show ∀ k, BlkOf (.slice x5a q5.length x5c) q5 k → k < w5.heap.size ∧ (BlkOf (.slice ua l.length uc) l k ∨ wr.heap.size ≤ k) from fun k hk => by
          refine ⟨(o5.blk k hk).2.2, ?_⟩
          rcases hk with hk | ⟨q, hq, hk⟩
          · rcases pf5.row k hk with h | h
            · exact .inl (.inl h)
            · exact .inr (by omega)
          · rcases pf5.near q hq with h | h
            · exact .inl (.inr ⟨q, h, hk⟩)
            · exact .inr (HN1.out k (by rw [h] at hk; exact hk)).1)
        have d0 := cells_at hy5 0
        have d1 := cells_at hy5 1
        have d2 := cells_at hy5 2
        have d3 := cells_at hy5 3
        have d4 := cells_at hy5 4
        have d5 := cells_at hy5 5
        have d6 := cells_at hy5 6
        have d7 := cells_at hy5 7
        simp at d0 d1 d2 d3 d4 d5 d6 d7
        have HO5 := hide (HOR.out _ B5)
        clear N5 f5 o5 b5 HN HP5 pf5 hv5
        go_wp2_with fail
        refine HO5.out.mono ?_
        rintro e w6 ⟨n2, rfl, o6, b6⟩
        have b6s := b6.size
        obtain ⟨ma, mc, rfl⟩ := owns_lenS o6
        have NW5w := hide (NW5.out.wide (Nat.le_refl _) (show wr.heap.size ≤ w5.heap.size by omega))
        have ROW6 := hide (owns_below NW5w.out.row b6 (Nat.le_refl _))
        clear d0 d1 d2 d3 d4 d5 d6 d7 hy5 hy4 HO5
        go_wp2_with (first
          | (at_builtin; refine append_struct7 encP_len (by omega) (by omega) _ rfl _ _ 29 rfl w.heap.size 40 Tryz.underlying29 (.agg (recC zeroRD (.slice none 0 0))) rfl Tryz.infoRec _ ns (p.1, .slice ma p.1.near.length mc) (encP_one _ _ _ _) rfl (ROW6.out.alloc _) ⟨w6.heap.size, 0, none⟩ 1 rfl (news_struct (cs := encP (p.1, .slice ma p.1.near.length mc))) (by omega) (by simp; omega) ?_))
        intro v7 w7 row7 gv7
        have b7s := gv7.1.size
        simp at b7s
        have NW7 := hide (NW5w.out.push (p := (p.1, .slice ma p.1.near.length mc)) (b6.alloc b6.size _) (by omega) (NearOwn.wide (NearOwn.keep ⟨o6, fun k hk => (o6.lt k hk).2⟩ (fun j _ _ h3 => Below.heap_alloc _ _ _ h3)) (Nat.le_refl _) (by simp)) row7 gv7.1)
        have hyb : ∀ k, (Value.slice ya ns.length yc).ownBlock = some k → BlkOf (.slice ya ns.length yc) ns k ∧ k < wr.heap.size := fun k hk => ⟨.inl hk, (NEW.out.blk k (.inl hk)).2.2⟩
        have OW7 := hide ((((O5.out.below b6 (Nat.le_refl _)).below ((Below.refl w6.heap.size w6).alloc (Nat.le_refl _) (.cells (encP (p.1, .slice ma p.1.near.length mc)).toArray 40)) (by omega)).keepS (W' := w7) (fun k hk => by
          have hb := BK5.out k hk
          refine gv7.1.block k (by simp; omega) (fun e => ?_)
          have hz := hyb k e.symm
          rcases hb.2 with h | h
          · exact HSP.out k h hz.1
          · omega)).wide (Nat.le_refl _) (show w5.heap.size ≤ w7.heap.size by omega))
        have SP7 := hide (show Sep (.slice x5a q5.length x5c) q5 v7 (ns ++ [(p.1, .slice ma p.1.near.length mc)]) from fun k h1 h2 => by
          have hb := BK5.out k h1
          have h3 : BlkOf (.slice ya ns.length yc) ns k ∨ w5.heap.size ≤ k := by
            rcases h2 with h2 | ⟨q, hq, h2⟩
            · rcases gv7.2 k h2 with h | h
              · exact .inl (.inl h)
              · exact .inr (by simp at h; omega)
            · rcases List.mem_append.1 hq with h | h
              · exact .inl (.inr ⟨q, h, h2⟩)
              · rw [List.mem_singleton.1 h] at h2
                exact .inr (o6.lt k h2).1
          rcases h3 with h3 | h3
          · have h4 := (NEW.out.blk k h3).2.2
            rcases hb.2 with h | h
            · exact HSP.out k h h3
            · omega
          · omega)
        have B7 : Below w.heap.size w w7 := ((B5.trans (b6.mono B5.size)).alloc (by have := B5.size; omega) _).grown gv7.1 (by simp; omega) (fun k hk => (NEW.out.row.lt k hk).1)
        have HN2 := hide (show fsts (ns ++ [(p.1, Value.slice ma p.1.near.length mc)]) = newsD (fsts ps) (fsts (ts.take (k + 1))) by rw [HNT.out, ← HNS.out]; simp [fsts])
        obtain ⟨v7a, v7c, rfl⟩ := owns_lenS row7
        clear row7 gv7 o6 b6 hyb
        go_wp2
        go_roundw
        case rel => exact ⟨k + 1, _, _, q5, _, by omega, by go_num, rfl, rfl, NF, HN2, OW7.out, NW7.out, SP7, NA, B7⟩
        case measure => simp [intOf]; omega
    · have hkn : ¬ (k : Int) < (ts.length : Int) := by omega
      have KN := hide (show k = ts.length by omega)
      have HF := hide (show fsts l = (fsts ts).foldl instD (fsts ps) by
        rw [HL.out, KN.out, List.take_length, fold_fsts])
      have HF2 := hide (show fsts ns = newsD (fsts ps) (fsts ts) by
        rw [HNS.out, KN.out, List.take_length])
      have OWN := hide hown
      have NEW := hide hnew
      clear hown hnew
      go_wp2
      go_returns
      first
        | exact ⟨_, _, l, ns, rfl, HF.out, HF2.out, OWN.out, NEW.out, HSP.out, hnx⟩
        | exact ⟨_, _, rfl, l, HF.out, ns, HF2.out, OWN.out, NEW.out, HSP.out, hnx⟩
end Go.Proofs.YtcimbiinljcifaaGreat
namespace Go.Proofs.YtcimbiinljcifaaGreat
open Go.RowKit

/-- the first that is not 0 -/
def orN : List Int → Int
  | [] => 0
  | x :: xs => if x = 0 then orN xs else x

theorem orN_skip : ∀ (k : Nat) (l : List Int), (∀ j, j < k → l.getD j 0 = 0) → orN l = orN (l.drop k)
  | 0, l, _ => by simp
  | k + 1, [], _ => by simp
  | k + 1, x :: xs, h => by
    have h0 : x = 0 := by simpa using h 0 (by omega)
    subst h0
    have e : orN (0 :: xs) = orN xs := by simp [orN]
    rw [e, List.drop_succ_cons]
    exact orN_skip k xs (fun j hj => by simpa using h (j + 1) (by omega))

theorem orN_at {k : Nat} {l : List Int} (h : ∀ j, j < k → l.getD j 0 = 0) (hk : k < l.length) (hx : l.getD k 0 ≠ 0) : orN l = l.getD k 0 := by
  rw [orN_skip k l h, List.drop_eq_getElem_cons hk]
  have e : l.getD k 0 = l[k] := by simp [List.getElem?_eq_getElem hk]
  rw [e] at hx ⊢
  simp only [orN]
  rw [if_neg hx]

theorem orN_none {k : Nat} {l : List Int} (h : ∀ j, j < k → l.getD j 0 = 0) (hk : k = l.length) : orN l = 0 := by
  rw [orN_skip k l h, List.drop_of_length_le (by omega)]
  rfl

set_option maxRecDepth 100000 in
set_option maxHeartbeats 1000000 in
theorem or_any (b n : Nat) (l : List Int) (w : World) (hn : n = l.length) (hs : l.length ≤ 1000) (hc : ∀ j, j < l.length → w.cell? ⟨b, j, none⟩ = some (.int .i64 (l.getD j 0))) :
    Calls Tryz.prog 118 #[.slice (some ⟨b, 0, none⟩) n n] w fun e w' => e = .returned (.int .i64 (orN l)) ∧ w = w' := by
  subst hn
  have HC := hide hc
  clear hc
  go_enter Tryz.func118, Tryz.ntmps118
  go_wp2
  go_loopw [8] (fun i wr => ∃ k : Nat, k ≤ l.length ∧ i = .int .i64 k ∧ (∀ j, j < k → l.getD j 0 = 0) ∧ w = wr) (fun i _ => l.length - (intOf i).toNat)
  case atStart => exact ⟨0, by omega, rfl, by omega, rfl⟩
  case round =>
    obtain ⟨k, hk, rfl, hno, rfl⟩ := hrel
    have HNO := hide hno
    clear hno
    by_cases hlt : k < l.length
    · have hcell := HC.out k hlt
      by_cases h0 : l.getD k 0 = 0
      · have hnx : ∀ j, j < k + 1 → l.getD j 0 = 0 := fun j hj => by
          by_cases e : j = k
          · subst e; exact h0
          · exact HNO.out j (by omega)
        rw [h0] at hcell
        have HN := hide hnx
        clear h0 hnx
        go_wp2
        go_roundw
        case rel => exact ⟨k + 1, by omega, by go_num, HN.out, trivial⟩
        case measure => simp [intOf]; omega
      · obtain ⟨y, hy⟩ : ∃ y, y = l.getD k 0 := ⟨_, rfl⟩
        rw [← hy] at hcell h0
        have hor : orN l = y := by rw [hy]; exact orN_at HNO.out hlt (by rw [← hy]; exact h0)
        have HO := hide hor
        clear hy hor
        go_wp2
        go_ret
        exact ⟨ret_i HO.out, rfl⟩
    · have hk' : k = l.length := by omega
      have HK := hide hk'
      clear hk'
      go_wp2
      go_ret
      exact ⟨ret_i (orN_none HNO.out HK.out), rfl⟩

theorem or_three (b : Nat) (x y z : Int) (w : World) (h0 : w.cell? ⟨b, 0, none⟩ = some (.int .i64 x)) (h1 : w.cell? ⟨b, 1, none⟩ = some (.int .i64 y)) (h2 : w.cell? ⟨b, 2, none⟩ = some (.int .i64 z)) :
    Calls Tryz.prog 118 #[.slice (some ⟨b, 0, none⟩) 3 3] w fun e w' => e = .returned (.int .i64 (orN [x, y, z])) ∧ w = w' :=
  or_any b 3 [x, y, z] w rfl (by simp) (fun j hj => by
    match j, hj with
    | 0, _ => exact h0
    | 1, _ => exact h1
    | 2, _ => exact h2
    | j + 3, hj => exact absurd hj (by simp only [List.length_cons, List.length_nil]; omega))

theorem or_two (b : Nat) (x y : Int) (w : World) (h0 : w.cell? ⟨b, 0, none⟩ = some (.int .i64 x)) (h1 : w.cell? ⟨b, 1, none⟩ = some (.int .i64 y)) :
    Calls Tryz.prog 118 #[.slice (some ⟨b, 0, none⟩) 2 2] w fun e w' => e = .returned (.int .i64 (orN [x, y])) ∧ w = w' :=
  or_any b 2 [x, y] w rfl (by simp) (fun j hj => by
    match j, hj with
    | 0, _ => exact h0
    | 1, _ => exact h1
    | j + 2, hj => exact absurd hj (by simp only [List.length_cons, List.length_nil]; omega))

theorem new_cell (w1 : World) (cs : Array Value) (t : TypeId) (j : Nat) (v : Value) (h : cs[j]? = some v) : (w1.alloc (.cells cs t)).drew.cell? ⟨w1.heap.size, j, none⟩ = some v := by
  have := cells_at (heap_alloc_new w1 (.cells cs t)) j
  rw [h] at this
  exact this

def ordL (l m : Lk) : Int := orN [cmpN l.a m.a, cmpN l.b m.b, cmpN l.r m.r]

def ordT (l m : Th) : Int := orN [cmpN l.k m.k, cmpN l.o m.o]

set_option maxRecDepth 100000 in
set_option maxHeartbeats 4000000 in
theorem ordL_any (l m : Lk) (w : World) : Calls Tryz.prog 114 #[lkV l, lkV m] w fun e w' => e = .returned (.int .i64 (ordL l m)) ∧ Below w.heap.size w w' := by
  obtain ⟨a, b, c, r⟩ := l
  obtain ⟨a', b', c', r'⟩ := m
  unfold lkV ordL
  simp only []
  go_enter Tryz.func114, Tryz.ntmps114
  go_wp2
  obtain ⟨w1, hw1⟩ : ∃ w1, w1 = (w.alloc (.cells #[.int .i64 a, .int .i64 b, .int .i64 c, .int .i64 r] 127)).alloc (.cells #[.int .i64 a', .int .i64 b', .int .i64 c', .int .i64 r'] 127) := ⟨_, rfl⟩
  have B1 : Below w.heap.size w w1 := by rw [hw1]; exact below_two _ _
  have p0 : w1.heap[w.heap.size]? = some (.cells #[.int .i64 a, .int .i64 b, .int .i64 c, .int .i64 r] 127) := by rw [hw1, Below.heap_alloc _ _ _ (by simp), heap_alloc_new]
  have q0 : w1.heap[w.heap.size + 1]? = some (.cells #[.int .i64 a', .int .i64 b', .int .i64 c', .int .i64 r'] 127) := by
    rw [hw1]
    have := heap_alloc_new (w.alloc (.cells #[.int .i64 a, .int .i64 b, .int .i64 c, .int .i64 r] 127)) (.cells #[.int .i64 a', .int .i64 b', .int .i64 c', .int .i64 r'] 127)
    simpa using this
  rw [← hw1]
  clear hw1
  have s0 := cells_at p0 0
  have s1 := cells_at p0 1
  have s3 := cells_at p0 3
  have t0 := cells_at q0 0
  have t1 := cells_at q0 1
  have t3 := cells_at q0 3
  have hz0 := lt_of_heap p0
  have hz1 := lt_of_heap q0
  simp at s0 s1 s3 t0 t1 t3
  clear p0 q0
  have hz2 := B1.size
  go_region_held3 (fun W => W.cell? ⟨w.heap.size, 0, none⟩ = some (.int .i64 a) ∧ W.cell? ⟨w.heap.size, 1, none⟩ = some (.int .i64 b) ∧ W.cell? ⟨w.heap.size, 3, none⟩ = some (.int .i64 r) ∧ W.cell? ⟨w.heap.size + 1, 0, none⟩ = some (.int .i64 a') ∧ W.cell? ⟨w.heap.size + 1, 1, none⟩ = some (.int .i64 b') ∧ W.cell? ⟨w.heap.size + 1, 3, none⟩ = some (.int .i64 r')) (first | go_keep | assumption) (first | (go_at_call 119; refine (compare_any _ _ _).mono ?_; rintro e w' ⟨rfl, rfl⟩) | (go_at_call 118; refine (or_three _ (cmpN a a') (cmpN b b') (cmpN r r') _ ?_ ?_ ?_).mono ?_; (exact new_cell _ _ _ _ _ rfl); (exact new_cell _ _ _ _ _ rfl); (exact new_cell _ _ _ _ _ rfl); rintro e w' ⟨rfl, rfl⟩))
  go_wp2
  go_ret
  exact ⟨rfl, B1.drew.alloc B1.size _⟩
set_option maxRecDepth 100000 in
set_option maxHeartbeats 4000000 in
theorem ordT_any (l m : Th) (w : World) : Calls Tryz.prog 116 #[thV l, thV m] w fun e w' => e = .returned (.int .i64 (ordT l m)) ∧ Below w.heap.size w w' := by
  obtain ⟨o, k, c, f⟩ := l
  obtain ⟨o', k', c', f'⟩ := m
  unfold thV ordT
  simp only []
  go_enter Tryz.func116, Tryz.ntmps116
  go_wp2
  obtain ⟨w1, hw1⟩ : ∃ w1, w1 = (w.alloc (.cells #[.int .i64 o, .int .i64 k, .int .i64 c, .bool f] 131)).alloc (.cells #[.int .i64 o', .int .i64 k', .int .i64 c', .bool f'] 131) := ⟨_, rfl⟩
  have B1 : Below w.heap.size w w1 := by rw [hw1]; exact below_two _ _
  have p0 : w1.heap[w.heap.size]? = some (.cells #[.int .i64 o, .int .i64 k, .int .i64 c, .bool f] 131) := by rw [hw1, Below.heap_alloc _ _ _ (by simp), heap_alloc_new]
  have q0 : w1.heap[w.heap.size + 1]? = some (.cells #[.int .i64 o', .int .i64 k', .int .i64 c', .bool f'] 131) := by
    rw [hw1]
    have := heap_alloc_new (w.alloc (.cells #[.int .i64 o, .int .i64 k, .int .i64 c, .bool f] 131)) (.cells #[.int .i64 o', .int .i64 k', .int .i64 c', .bool f'] 131)
    simpa using this
  rw [← hw1]
  clear hw1
  have s0 := cells_at p0 0
  have s1 := cells_at p0 1
  have t0 := cells_at q0 0
  have t1 := cells_at q0 1
  have hz0 := lt_of_heap p0
  have hz1 := lt_of_heap q0
  simp at s0 s1 t0 t1
  clear p0 q0
  have hz2 := B1.size
  go_region_held3 (fun W => W.cell? ⟨w.heap.size, 0, none⟩ = some (.int .i64 o) ∧ W.cell? ⟨w.heap.size, 1, none⟩ = some (.int .i64 k) ∧ W.cell? ⟨w.heap.size + 1, 0, none⟩ = some (.int .i64 o') ∧ W.cell? ⟨w.heap.size + 1, 1, none⟩ = some (.int .i64 k')) (first | go_keep | assumption) (first | (go_at_call 119; refine (compare_any _ _ _).mono ?_; rintro e w' ⟨rfl, rfl⟩) | (go_at_call 118; refine (or_two _ (cmpN k k') (cmpN o o') _ ?_ ?_).mono ?_; (exact new_cell _ _ _ _ _ rfl); (exact new_cell _ _ _ _ _ rfl); rintro e w' ⟨rfl, rfl⟩))
  go_wp2
  go_ret
  exact ⟨rfl, B1.drew.alloc B1.size _⟩
end Go.Proofs.YtcimbiinljcifaaGreat
namespace Go.Proofs.YtcimbiinljcifaaGreat
open Go.RowKit

def linkOkB (n : Int) (l : Lk) : Bool := inB n 1 6 && inB l.a 1 n && inB l.b 1 n && decide (l.a < l.b) && inB l.c 1 1000 && inB l.r 0 2

def aheadB (a b : Lk) : Bool := decide (a.a < b.a) || (a.a == b.a && (decide (a.b < b.b) || (a.b == b.b && decide (a.r < b.r))))

def thingB (a b : Th) : Bool := decide (a.k < b.k) || (a.k == b.k && decide (a.o < b.o))

set_option maxRecDepth 100000 in
set_option maxHeartbeats 2000000 in
theorem slinkOk_any (n : Int) (l : Lk) (w : World) : Calls Tryz.prog 108 #[.int .i64 n, lkV l] w fun e w' => e = .returned (.bool (linkOkB n l)) ∧ Below w.heap.size w w' := by
  obtain ⟨a, b, c, r⟩ := l
  unfold lkV linkOkB
  simp only []
  generalize hq1 : inB n 1 6 = q1
  generalize hq2 : inB a 1 n = q2
  generalize hq3 : inB b 1 n = q3
  generalize hq4 : inB c 1 1000 = q4
  generalize hq5 : inB r 0 2 = q5
  have h1 := in_any n 1 6
  have h2 := in_any a 1 n
  have h3 := in_any b 1 n
  have h4 := in_any c 1 1000
  have h5 := in_any r 0 2
  rw [hq1] at h1
  rw [hq2] at h2
  rw [hq3] at h3
  rw [hq4] at h4
  rw [hq5] at h5
  have H1 := hide h1
  have H2 := hide h2
  have H3 := hide h3
  have H4 := hide h4
  have H5 := hide h5
  clear h1 h2 h3 h4 h5 hq1 hq2 hq3 hq4 hq5
  cases q1
  · go_enter Tryz.func108, Tryz.ntmps108
    go_wp2_with fail
    refine (H1.out _).mono ?_
    rintro e w1 ⟨rfl, rfl⟩
    go_wp2
    go_ret
    exact ⟨by simp, (Below.refl _ _).alloc (Nat.le_refl _) _⟩
  cases q2
  · go_enter Tryz.func108, Tryz.ntmps108
    go_wp2_with fail
    refine (H1.out _).mono ?_
    rintro e w1 ⟨rfl, rfl⟩
    go_wp2_with fail
    refine (H2.out _).mono ?_
    rintro e w1 ⟨rfl, rfl⟩
    go_wp2
    go_ret
    exact ⟨by simp, (Below.refl _ _).alloc (Nat.le_refl _) _⟩
  cases q3
  · go_enter Tryz.func108, Tryz.ntmps108
    go_wp2_with fail
    refine (H1.out _).mono ?_
    rintro e w1 ⟨rfl, rfl⟩
    go_wp2_with fail
    refine (H2.out _).mono ?_
    rintro e w1 ⟨rfl, rfl⟩
    go_wp2_with fail
    refine (H3.out _).mono ?_
    rintro e w1 ⟨rfl, rfl⟩
    go_wp2
    go_ret
    exact ⟨by simp, (Below.refl _ _).alloc (Nat.le_refl _) _⟩
  by_cases hab : a < b
  · cases q4
    · go_enter Tryz.func108, Tryz.ntmps108
      go_wp2_with fail
      refine (H1.out _).mono ?_
      rintro e w1 ⟨rfl, rfl⟩
      go_wp2_with fail
      refine (H2.out _).mono ?_
      rintro e w1 ⟨rfl, rfl⟩
      go_wp2_with fail
      refine (H3.out _).mono ?_
      rintro e w1 ⟨rfl, rfl⟩
      go_wp2_with fail
      refine (H4.out _).mono ?_
      rintro e w1 ⟨rfl, rfl⟩
      go_wp2
      go_ret
      exact ⟨by simp, (Below.refl _ _).alloc (Nat.le_refl _) _⟩
    · go_enter Tryz.func108, Tryz.ntmps108
      go_wp2_with fail
      refine (H1.out _).mono ?_
      rintro e w1 ⟨rfl, rfl⟩
      go_wp2_with fail
      refine (H2.out _).mono ?_
      rintro e w1 ⟨rfl, rfl⟩
      go_wp2_with fail
      refine (H3.out _).mono ?_
      rintro e w1 ⟨rfl, rfl⟩
      go_wp2_with fail
      refine (H4.out _).mono ?_
      rintro e w1 ⟨rfl, rfl⟩
      go_wp2_with fail
      refine (H5.out _).mono ?_
      rintro e w1 ⟨rfl, rfl⟩
      go_wp2
      go_ret
      exact ⟨ret_bool (by rw [decide_eq_true hab]; simp), (Below.refl _ _).alloc (Nat.le_refl _) _⟩
  · go_enter Tryz.func108, Tryz.ntmps108
    go_wp2_with fail
    refine (H1.out _).mono ?_
    rintro e w1 ⟨rfl, rfl⟩
    go_wp2_with fail
    refine (H2.out _).mono ?_
    rintro e w1 ⟨rfl, rfl⟩
    go_wp2_with fail
    refine (H3.out _).mono ?_
    rintro e w1 ⟨rfl, rfl⟩
    go_wp2
    go_ret
    exact ⟨ret_bool (by rw [decide_eq_false (show ¬ a < b by omega)]; simp), (Below.refl _ _).alloc (Nat.le_refl _) _⟩

set_option maxRecDepth 100000 in
set_option maxHeartbeats 2000000 in
theorem sahead_any (l m : Lk) (w : World) : Calls Tryz.prog 109 #[lkV l, lkV m] w fun e w' => e = .returned (.bool (aheadB l m)) ∧ Below w.heap.size w w' := by
  obtain ⟨a, b, c, r⟩ := l
  obtain ⟨a', b', c', r'⟩ := m
  unfold lkV
  go_enter Tryz.func109, Tryz.ntmps109
  go_wp2
  all_goals go_ret
  all_goals refine ⟨ret_bool ?_, below_two _ _⟩
  all_goals (simp only [aheadB]; grind)

set_option maxRecDepth 100000 in
set_option maxHeartbeats 2000000 in
theorem sthing_any (l m : Th) (w : World) : Calls Tryz.prog 110 #[thV l, thV m] w fun e w' => e = .returned (.bool (thingB l m)) ∧ Below w.heap.size w w' := by
  obtain ⟨a, b, c, r⟩ := l
  obtain ⟨a', b', c', r'⟩ := m
  unfold thV
  go_enter Tryz.func110, Tryz.ntmps110
  go_wp2
  all_goals go_ret
  all_goals refine ⟨ret_bool ?_, below_two _ _⟩
  all_goals (simp only [thingB]; grind)
end Go.Proofs.YtcimbiinljcifaaGreat
namespace Go.Proofs.YtcimbiinljcifaaGreat
open Go.RowKit

set_option maxRecDepth 100000 in
set_option maxHeartbeats 2000000 in
theorem ilinkOk_any (n : Int) (l : Lk) (w : World) : Calls Tryz.prog 112 #[.int .i64 n, lkV l] w fun e w' => e = .returned (.bool (linkOkB n l)) ∧ Below w.heap.size w w' := by
  obtain ⟨a, b, c, r⟩ := l
  unfold lkV linkOkB
  simp only []
  generalize hq1 : inB n 1 6 = q1
  generalize hq2 : inB a 1 n = q2
  generalize hq3 : inB b 1 n = q3
  generalize hq4 : inB c 1 1000 = q4
  generalize hq5 : inB r 0 2 = q5
  have h1 := isIn_any n 1 6
  have h2 := isIn_any a 1 n
  have h3 := isIn_any b 1 n
  have h4 := isIn_any c 1 1000
  have h5 := isIn_any r 0 2
  rw [hq1] at h1
  rw [hq2] at h2
  rw [hq3] at h3
  rw [hq4] at h4
  rw [hq5] at h5
  have H1 := hide h1
  have H2 := hide h2
  have H3 := hide h3
  have H4 := hide h4
  have H5 := hide h5
  clear h1 h2 h3 h4 h5 hq1 hq2 hq3 hq4 hq5
  cases q1
  · go_enter Tryz.func112, Tryz.ntmps112
    go_wp2_with fail
    refine (H1.out _).mono ?_
    rintro e w1 ⟨rfl, rfl⟩
    go_wp2
    go_ret
    exact ⟨by simp, (Below.refl _ _).alloc (Nat.le_refl _) _⟩
  cases q2
  · go_enter Tryz.func112, Tryz.ntmps112
    go_wp2_with fail
    refine (H1.out _).mono ?_
    rintro e w1 ⟨rfl, rfl⟩
    go_wp2_with fail
    refine (H2.out _).mono ?_
    rintro e w1 ⟨rfl, rfl⟩
    go_wp2
    go_ret
    exact ⟨by simp, (Below.refl _ _).alloc (Nat.le_refl _) _⟩
  cases q3
  · go_enter Tryz.func112, Tryz.ntmps112
    go_wp2_with fail
    refine (H1.out _).mono ?_
    rintro e w1 ⟨rfl, rfl⟩
    go_wp2_with fail
    refine (H2.out _).mono ?_
    rintro e w1 ⟨rfl, rfl⟩
    go_wp2_with fail
    refine (H3.out _).mono ?_
    rintro e w1 ⟨rfl, rfl⟩
    go_wp2
    go_ret
    exact ⟨by simp, (Below.refl _ _).alloc (Nat.le_refl _) _⟩
  by_cases hab : a < b
  · cases q4
    · go_enter Tryz.func112, Tryz.ntmps112
      go_wp2_with fail
      refine (H1.out _).mono ?_
      rintro e w1 ⟨rfl, rfl⟩
      go_wp2_with fail
      refine (H2.out _).mono ?_
      rintro e w1 ⟨rfl, rfl⟩
      go_wp2_with fail
      refine (H3.out _).mono ?_
      rintro e w1 ⟨rfl, rfl⟩
      go_wp2_with fail
      refine (H4.out _).mono ?_
      rintro e w1 ⟨rfl, rfl⟩
      go_wp2
      go_ret
      exact ⟨by simp, (Below.refl _ _).alloc (Nat.le_refl _) _⟩
    · go_enter Tryz.func112, Tryz.ntmps112
      go_wp2_with fail
      refine (H1.out _).mono ?_
      rintro e w1 ⟨rfl, rfl⟩
      go_wp2_with fail
      refine (H2.out _).mono ?_
      rintro e w1 ⟨rfl, rfl⟩
      go_wp2_with fail
      refine (H3.out _).mono ?_
      rintro e w1 ⟨rfl, rfl⟩
      go_wp2_with fail
      refine (H4.out _).mono ?_
      rintro e w1 ⟨rfl, rfl⟩
      go_wp2_with fail
      refine (H5.out _).mono ?_
      rintro e w1 ⟨rfl, rfl⟩
      go_wp2
      go_ret
      exact ⟨ret_bool (by rw [decide_eq_true hab]; simp), (Below.refl _ _).alloc (Nat.le_refl _) _⟩
  · go_enter Tryz.func112, Tryz.ntmps112
    go_wp2_with fail
    refine (H1.out _).mono ?_
    rintro e w1 ⟨rfl, rfl⟩
    go_wp2_with fail
    refine (H2.out _).mono ?_
    rintro e w1 ⟨rfl, rfl⟩
    go_wp2_with fail
    refine (H3.out _).mono ?_
    rintro e w1 ⟨rfl, rfl⟩
    go_wp2
    go_ret
    exact ⟨ret_bool (by rw [decide_eq_false (show ¬ a < b by omega)]; simp), (Below.refl _ _).alloc (Nat.le_refl _) _⟩

end Go.Proofs.YtcimbiinljcifaaGreat
