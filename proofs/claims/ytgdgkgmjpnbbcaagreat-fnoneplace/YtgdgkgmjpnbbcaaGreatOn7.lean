/-
  PutMath WithS WMath FindK NodeS IntK WayK MarkG
-/
import Derived.Test.YtgdgkgmjpnbbcaaGreatOn6
import Derived.Test.YtgdgkgmjpnbbcaaGreatOn1
import Derived.Test.YtgdgkgmjpnbbcaaGreatOn3
import Derived.Deep.QuietTactic
import Derived.BigQuiet
import Derived.WalkSmall
import Derived.Handy
namespace Go.Proofs.YtgdgkgmjpnbbcaaGreat
open Go.RowKit

theorem ZdM {x y z:RecD}(h1:Zas x y=true)(h2:Zas y z=true):Zas x z=true:=by
 unfold Zas at *;simp only [Bool.or_eq_true,Bool.and_eq_true,decide_eq_true_eq,beq_iff_eq] at *
 omega

theorem ZhK {x y z:RecD}(h1:ZaN x y=true)(h2:Zas x z=true):Zas y z=true:=by
 unfold Zas ZaN at *;simp only [Bool.or_eq_true,Bool.and_eq_true,decide_eq_true_eq,beq_iff_eq] at *
 omega

theorem ZdL {x y:RecD}(h1:ZaN x y=true):Zas x y=false/\Zas y x=false:=by
 unfold Zas ZaN at *;simp only [Bool.or_eq_false_iff,Bool.and_eq_false_iff,decide_eq_false_iff_not,beq_eq_false_iff_ne,Bool.and_eq_true,beq_iff_eq] at *
 omega

theorem ZlS (x y:RecD):Zas x y=true\/ZaN x y=true\/Zas y x=true:=by
 unfold Zas ZaN;simp only [Bool.or_eq_true,Bool.and_eq_true,decide_eq_true_eq,beq_iff_eq]
 omega

theorem ZgH (x y:RecD):ordR x y<0↔Zas x y=true:=by
 rw [<-Zia];simp

theorem Zi2 (x y:RecD):ordR x y=0↔ZaN x y=true:=by
 unfold ordR cmpK ZaN;simp only [Bool.and_eq_true,beq_iff_eq]
 by_cases h1:x.area=y.area
 ·rw [if_pos (Zbc.2 h1)]
  by_cases h2:x.kind=y.kind
  ·rw [if_pos (Zbc.2 h2)]
   by_cases h3:x.owner=y.owner
   ·rw [if_pos (Zbc.2 h3),Zbc]
    simp [h1,h2,h3]
   ·rw [if_neg (fun h=>h3 (Zbc.1 h)),Zbc]
    simp [h3]
  ·rw [if_neg (fun h=>h2 (Zbc.1 h)),Zbc]
   simp [h2]
 ·rw [if_neg (fun h=>h1 (Zbc.1 h)),Zbc]
  simp [h1]

def Asc (xs:List RecD):Prop:=xs.Pairwise (fun x y=>Zas x y=true)

theorem Znl {xs:List RecD}(h:Asc xs):ascB ordR xs=true:=by
 unfold Asc at h;rw [List.pairwise_iff_getElem] at h;refine Zbf fun j hj=>?_
 cases j with
 | zero=>rfl
 | succ k=>
  rw [ZbF (List.getElem?_eq_getElem (by omega)) (List.getElem?_eq_getElem hj),Zia]
  exact h k (k+1) (by omega) hj (by omega)

theorem Znm {xs:List RecD}(h:Asc xs)(r:RecD):∀ s t,s<=t->t<xs.length->ltAt xs r t->ltAt xs r s:=by
 intro s t hst ht hl;unfold Asc at h;rw [List.pairwise_iff_getElem] at h;have h1:=(ZdU (List.getElem?_eq_getElem ht)).1 hl;refine (ZdU (List.getElem?_eq_getElem (by omega))).2 ?_
 by_cases e:s=t
 ·subst e;exact h1
 ·rw [ZgH] at h1 |-
  exact ZdM (h s t (by omega) ht (by omega)) h1

def putD (xs:List RecD)(r:RecD):List RecD:=xs.filter (fun x=>Zas x r)++[r]++xs.filter (fun x=>Zas r x)

theorem Zfe (ps:List RP)(r:RP):fsts (putL ps r)=putD (fsts ps) r.1:=by
 unfold putL putD fsts;simp [List.filter_map,Function.comp_def]

section
variable {xs:List RecD} {r:RecD} {i:Nat}

theorem Zl3 (hi:i<=xs.length)(h1:∀ t,t<i->ltAt xs r t)(h2:∀ t,i<=t->t<xs.length->¬ltAt xs r t):xs.filter (fun x=>Zas x r)=xs.take i:=by
 conv=>lhs;rw [<-List.take_append_drop i xs]
 rw [List.filter_append];have e1:(xs.take i).filter (fun x=>Zas x r)=xs.take i:=by
  rw [List.filter_eq_self];intro x hx;obtain⟨t,ht,e⟩:=List.getElem_of_mem hx;rw [List.length_take] at ht;rw [List.getElem_take] at e;have:=(ZdU (List.getElem?_eq_getElem (show t<xs.length by omega))).1 (h1 t (by omega))
  rw [e,ZgH] at this;exact this
 have e2:(xs.drop i).filter (fun x=>Zas x r)=[]:=by
  rw [List.filter_eq_nil_iff];intro x hx hb;obtain⟨t,ht,e⟩:=List.getElem_of_mem hx;rw [List.length_drop] at ht;rw [List.getElem_drop] at e;refine h2 (i+t) (by omega) (by omega) ((ZdU (List.getElem?_eq_getElem (by omega))).2 ?_)
  rw [e,ZgH];exact hb
 rw [e1,e2,List.append_nil]

theorem ZfS (h1:∀ t,t<i->ltAt xs r t)(hi:i<=xs.length):(xs.take i).filter (fun x=>Zas r x)=[]:=by
 rw [List.filter_eq_nil_iff];intro x hx hb;obtain⟨t,ht,e⟩:=List.getElem_of_mem hx;rw [List.length_take] at ht;rw [List.getElem_take] at e;have:=(ZdU (List.getElem?_eq_getElem (show t<xs.length by omega))).1 (h1 t (by omega))
 rw [e,ZgH] at this;rw [Zet this] at hb;cases hb

theorem Zoe (hs:Asc xs)(hi:i<=xs.length)(h1:∀ t,t<i->ltAt xs r t)(h2:∀ t,i<=t->t<xs.length->¬ltAt xs r t)(h3:¬∃ x,xs[i]? = some x/\ordR x r=0):putD xs r=xs.take i++[r]++xs.drop i:=by
 unfold putD;rw [Zl3 hi h1 h2]
 congr 1
 conv=>lhs;rw [<-List.take_append_drop i xs]
 rw [List.filter_append,ZfS h1 hi,List.nil_append,List.filter_eq_self];unfold Asc at hs;rw [List.pairwise_iff_getElem] at hs;intro x hx;obtain⟨t,ht,e⟩:=List.getElem_of_mem hx;rw [List.length_drop] at ht;rw [List.getElem_drop] at e;have hin:i<xs.length:=by omega
 have hfirst:Zas r xs[i]=true:=by
  rcases ZlS xs[i] r with h | h | h
  ·exact absurd ((ZdU (List.getElem?_eq_getElem hin)).2 ((ZgH _ _).2 h)) (h2 i (Nat.le_refl _) hin)
  ·exact absurd ⟨xs[i],List.getElem?_eq_getElem hin,(Zi2 _ _).2 h⟩ h3
  ·exact h
 by_cases e0:t=0
 ·subst e0
  simp only [Nat.add_zero] at e
  rw [<-e];exact hfirst
 ·rw [<-e]
  exact ZdM hfirst (hs i (i+t) hin (by omega) (by omega))

theorem Zof (hs:Asc xs)(hi:i<xs.length)(h1:∀ t,t<i->ltAt xs r t)(h2:∀ t,i<=t->t<xs.length->¬ltAt xs r t)(h3:ordR xs[i] r=0):putD xs r=xs.set i r:=by
 have hsame:=(Zi2 _ _).1 h3;have e0:xs.drop i=xs[i]::xs.drop (i+1):=List.drop_eq_getElem_cons hi;unfold putD;rw [Zl3 (Nat.le_of_lt hi) h1 h2];have e1:xs.filter (fun x=>Zas r x)=xs.drop (i+1):=by
  conv=>lhs;rw [<-List.take_append_drop i xs]
  rw [List.filter_append,ZfS h1 (Nat.le_of_lt hi),List.nil_append,e0,List.filter_cons,if_neg (by rw [(ZdL hsame).2];simp),List.filter_eq_self]
  unfold Asc at hs;rw [List.pairwise_iff_getElem] at hs;intro x hx;obtain⟨t,ht,e⟩:=List.getElem_of_mem hx;rw [List.length_drop] at ht;rw [List.getElem_drop] at e;rw [<-e];exact ZhK hsame (hs i (i+1+t) hi (by omega) (by omega))
 rw [e1]
 apply List.ext_getElem?
 intro j;by_cases hj:j<i
 ·rw [List.getElem?_set_ne (by omega),List.append_assoc,List.getElem?_append_left (by simp;omega),List.getElem?_take_of_lt hj]
 ·by_cases hje:j=i
  ·subst hje
   rw [List.getElem?_set_self hi,List.append_assoc,List.getElem?_append_right (by simp;omega),List.length_take,Nat.min_eq_left (by omega),Nat.sub_self]
   rfl
  ·rw [List.getElem?_set_ne (by omega),List.append_assoc,List.getElem?_append_right (by simp;omega),List.length_take,Nat.min_eq_left (by omega),List.getElem?_append_right (by simp;omega),List.getElem?_drop]
   congr 1
   simp
   omega
end
end Go.Proofs.YtgdgkgmjpnbbcaaGreat
namespace Go.Proofs.YtgdgkgmjpnbbcaaGreat
open Go.RowKit
set_option linter.unusedSimpArgs false
set_option linter.unusedVariables false
set_option maxRecDepth 100000
set_option maxHeartbeats 8000000
def seq1 (r:RecD):RecD:=if r.seq=0 then { r with seq:=1 } else r
def Zd5 (xs ts:List RecD):List RecD:=ts.foldl (fun a r=>putD a (seq1 r)) xs
theorem ZhF {xs ts:List RecD}{k:Nat}{r:RecD}(h:ts[k]? = some r):Zd5 xs (ts.take (k+1))=putD (Zd5 xs (ts.take k)) (seq1 r):=by
 obtain⟨hk,e⟩:=List.getElem?_eq_some_iff.1 h;unfold Zd5;rw [List.take_succ_eq_append_getElem hk,e,List.foldl_append]
 rfl
theorem Znc {ts:List RP}{k:Nat}{p:RP}(h:ts[k]? = some p):tot (ts.take (k+1))=tot (ts.take k)+(1+p.1.near.length):=by
 obtain⟨hk,e⟩:=List.getElem?_eq_some_iff.1 h;rw [List.take_succ_eq_append_getElem hk,Zdu,e];simp [tot]
theorem Zjl (ts:List RP)(k:Nat):tot (ts.take k)<=tot ts:=by
 have h:=Zdu (ts.take k) (ts.drop k);rw [List.take_append_drop] at h;omega
theorem ZoE (v v2:Value)(ps ts:List RP)(hi:Nat)(w:World)(hv:RecsIn w hi v ps)(ht:RecsIn w hi v2 ts)(hhi:hi<=w.heap.size)(hn:tot ps+tot ts<=1048576):
  Calls Tryz.prog 53 #[v,v2] w fun e w'=>∃ x qs,e=.returned x/\fsts qs=Zd5 (fsts ps) (fsts ts)/\RecsIn w' w'.heap.size x qs/\tot qs<=tot ps+tot ts/\Below w.heap.size w w':=by
 have htl:=ZbI ts;obtain⟨a1,c1,rfl⟩:=Zac hv.row;obtain⟨a2,c2,rfl⟩:=Zac ht.row;have HT:=hide ht;have HV0:=hide (hv.wide hhi);clear hv ht
 go_enter Tryz.func53,Tryz.ntmps53
 go_wp2
 go_loopw [6,5] (fun i o wr=>∃ (k:Nat) (x:Value) (qs:List RP),k<=ts.length/\i=.int .i64 (k:Int)/\o=x/\RecsIn wr wr.heap.size x qs/\Hid (fsts qs=Zd5 (fsts ps) ((fsts ts).take k))/\tot qs<=tot ps+tot (ts.take k)/\Below w.heap.size w wr) (fun i _ _=>ts.length-(intOf i).toNat)
 case atStart=>exact ⟨0,_,ps,by omega,rfl,rfl,HV0.out,hide (by simp [Zd5]),by omega,Below.refl _ _⟩
 case round=>
  obtain⟨k,x,qs,hk,rfl,rfl,hin,HF,htq,hnx⟩:=hrel;clear HV0;obtain⟨xa,xc,rfl⟩:=Zac hin.row;have hsz:=hnx.size;by_cases hlt:k<ts.length
  ·obtain ⟨p,hp⟩:∃ p,ts[k]? = some p:=⟨ts[k],List.getElem?_eq_getElem hlt⟩
   obtain⟨bb,off,cap',hve,hbb,c0,c1,c2,c3,c4,c5,c6,c7,hnr⟩:=HT.out.at.cells k p hp;cases hve
   obtain⟨pa,pc,hpn⟩:=ZaB.shape hnr;rw [hpn] at c5;rw [<-hnx.cell (p:=⟨bb,off+k*8,none⟩) (Nat.lt_of_lt_of_le hbb hhi)] at c0;rw [<-hnx.cell (p:=⟨bb,off+k*8+1,none⟩) (Nat.lt_of_lt_of_le hbb hhi)] at c1;rw [<-hnx.cell (p:=⟨bb,off+k*8+2,none⟩) (Nat.lt_of_lt_of_le hbb hhi)] at c2;rw [<-hnx.cell (p:=⟨bb,off+k*8+3,none⟩) (Nat.lt_of_lt_of_le hbb hhi)] at c3;rw [<-hnx.cell (p:=⟨bb,off+k*8+4,none⟩) (Nat.lt_of_lt_of_le hbb hhi)] at c4;rw [<-hnx.cell (p:=⟨bb,off+k*8+5,none⟩) (Nat.lt_of_lt_of_le hbb hhi)] at c5;rw [<-hnx.cell (p:=⟨bb,off+k*8+6,none⟩) (Nat.lt_of_lt_of_le hbb hhi)] at c6;rw [<-hnx.cell (p:=⟨bb,off+k*8+7,none⟩) (Nat.lt_of_lt_of_le hbb hhi)] at c7;have htk:=Znc hp;have htl2:=Zjl ts (k+1);have hno0:=HT.out.nears p (List.mem_of_getElem? hp);have hno1:ZaJ wr 0 wr.heap.size p:=(hno0.keep (W':=wr) (fun j _ h2 _=>hnx.block j (by omega))).wide (Nat.le_refl _) (by omega)
   have hpe:p=(p.1,.slice pa p.1.near.length pc):=by rw [<-hpn]
   have hki:(0:Int)<=(k:Int):=by omega
   have hkj:(k:Int)<(ts.length:Int):=by omega
   by_cases hs0:p.1.seq=0
   ·have hd:(p.1.seq==0)=true:=by simpa using hs0
    have hse:seq1 p.1 = { p.1 with seq:=1 }:=by unfold seq1;rw [if_pos hs0]
    have hno:ZaJ wr 0 wr.heap.size ({ p.1 with seq:=1 },.slice pa p.1.near.length pc):=by rw [hpe] at hno1;exact hno1
    clear hs0 hpe hno0 hno1 hnr hpn;have BA:Below wr.heap.size wr (wr.alloc (.cells #[.int .i64 p.1.area,.int .i64 p.1.kind,.int .i64 p.1.owner,.int .i64 p.1.key,.int .i64 1,.slice pa p.1.near.length pc,.int .i64 p.1.cost,.bool p.1.far] 59)):=(Below.refl _ _).alloc (Nat.le_refl _) _;have hno2:ZaJ (wr.alloc (.cells #[.int .i64 p.1.area,.int .i64 p.1.kind,.int .i64 p.1.owner,.int .i64 p.1.key,.int .i64 1,.slice pa p.1.near.length pc,.int .i64 p.1.cost,.bool p.1.far] 59)) 0 (wr.alloc (.cells #[.int .i64 p.1.area,.int .i64 p.1.kind,.int .i64 p.1.owner,.int .i64 p.1.key,.int .i64 1,.slice pa p.1.near.length pc,.int .i64 p.1.cost,.bool p.1.far] 59)).heap.size ({ p.1 with seq:=1 },.slice pa p.1.near.length pc):=(hno.keep (W':=(wr.alloc (.cells #[.int .i64 p.1.area,.int .i64 p.1.kind,.int .i64 p.1.owner,.int .i64 p.1.key,.int .i64 1,.slice pa p.1.near.length pc,.int .i64 p.1.cost,.bool p.1.far] 59))) (fun j _ _ h3=>BA.block j h3)).wide (Nat.le_refl _) BA.size
    have HP:=hide (Zie (.slice xa qs.length xc) qs (wr.alloc (.cells #[.int .i64 p.1.area,.int .i64 p.1.kind,.int .i64 p.1.owner,.int .i64 p.1.key,.int .i64 1,.slice pa p.1.near.length pc,.int .i64 p.1.cost,.bool p.1.far] 59)).heap.size ({ p.1 with seq:=1 },.slice pa p.1.near.length pc) (wr.alloc (.cells #[.int .i64 p.1.area,.int .i64 p.1.kind,.int .i64 p.1.owner,.int .i64 p.1.key,.int .i64 1,.slice pa p.1.near.length pc,.int .i64 p.1.cost,.bool p.1.far] 59)) ((hin.below BA (Nat.le_refl _)).wide BA.size) (Nat.le_refl _) (by omega) hno2)
    have HF2:=hide (show fsts (putL qs ({ p.1 with seq:=1 },.slice pa p.1.near.length pc))=Zd5 (fsts ps) ((fsts ts).take (k+1)) by
     rw [Zfe,ZhF (Zbo hp), <-HF.out,hse])
    have htp:=Zij qs ({ p.1 with seq:=1 },.slice pa p.1.near.length pc)
    have HB:=hide (hnx.trans (BA.mono hnx.size));have HTK:=hide htk;have htp2:tot (putL qs ({ p.1 with seq:=1 },.slice pa p.1.near.length pc))<=tot qs+(1+p.1.near.length):=htp
    obtain⟨Q,hQ⟩:∃ Q,Q=putL qs ({ p.1 with seq:=1 },.slice pa p.1.near.length pc):=⟨_,rfl⟩
    rw [<-hQ] at HP HF2 htp2;unfold recC at HP;simp only [] at HP
    clear hno hno2 hin hse htp hp HF htk hQ
    go_wp2_with fail
    refine HP.out.mono ?_
    rintro e w2 ⟨y,rfl,hy,b2⟩;obtain⟨ya,yc,rfl⟩:=Zac hy.row;have HY:=hide hy;have HB2:=hide (HB.out.trans (b2.mono HB.out.size));clear hy b2 HP HB BA
    go_wp2
    go_roundw
    case rel=>exact ⟨k+1,_,Q,by omega,by go_num,rfl,HY.out,HF2,by have:=HTK.out;omega,HB2.out⟩
    case measure=>simp [intOf];omega
   ·have hd:(p.1.seq==0)=false:=by simpa using hs0
    have hse:seq1 p.1=p.1:=by unfold seq1;rw [if_neg hs0]
    have hno:ZaJ wr 0 wr.heap.size (p.1,.slice pa p.1.near.length pc):=by rw [hpe] at hno1;exact hno1
    clear hs0 hpe hno0 hno1 hnr hpn;have BA:Below wr.heap.size wr (wr.alloc (.cells #[.int .i64 p.1.area,.int .i64 p.1.kind,.int .i64 p.1.owner,.int .i64 p.1.key,.int .i64 p.1.seq,.slice pa p.1.near.length pc,.int .i64 p.1.cost,.bool p.1.far] 59)):=(Below.refl _ _).alloc (Nat.le_refl _) _;have hno2:ZaJ (wr.alloc (.cells #[.int .i64 p.1.area,.int .i64 p.1.kind,.int .i64 p.1.owner,.int .i64 p.1.key,.int .i64 p.1.seq,.slice pa p.1.near.length pc,.int .i64 p.1.cost,.bool p.1.far] 59)) 0 (wr.alloc (.cells #[.int .i64 p.1.area,.int .i64 p.1.kind,.int .i64 p.1.owner,.int .i64 p.1.key,.int .i64 p.1.seq,.slice pa p.1.near.length pc,.int .i64 p.1.cost,.bool p.1.far] 59)).heap.size (p.1,.slice pa p.1.near.length pc):=(hno.keep (W':=(wr.alloc (.cells #[.int .i64 p.1.area,.int .i64 p.1.kind,.int .i64 p.1.owner,.int .i64 p.1.key,.int .i64 p.1.seq,.slice pa p.1.near.length pc,.int .i64 p.1.cost,.bool p.1.far] 59))) (fun j _ _ h3=>BA.block j h3)).wide (Nat.le_refl _) BA.size
    have HP:=hide (Zie (.slice xa qs.length xc) qs (wr.alloc (.cells #[.int .i64 p.1.area,.int .i64 p.1.kind,.int .i64 p.1.owner,.int .i64 p.1.key,.int .i64 p.1.seq,.slice pa p.1.near.length pc,.int .i64 p.1.cost,.bool p.1.far] 59)).heap.size (p.1,.slice pa p.1.near.length pc) (wr.alloc (.cells #[.int .i64 p.1.area,.int .i64 p.1.kind,.int .i64 p.1.owner,.int .i64 p.1.key,.int .i64 p.1.seq,.slice pa p.1.near.length pc,.int .i64 p.1.cost,.bool p.1.far] 59)) ((hin.below BA (Nat.le_refl _)).wide BA.size) (Nat.le_refl _) (by omega) hno2)
    have HF2:=hide (show fsts (putL qs (p.1,.slice pa p.1.near.length pc))=Zd5 (fsts ps) ((fsts ts).take (k+1)) by
     rw [Zfe,ZhF (Zbo hp), <-HF.out,hse])
    have htp:=Zij qs (p.1,.slice pa p.1.near.length pc);have HB:=hide (hnx.trans (BA.mono hnx.size));have HTK:=hide htk;have htp2:tot (putL qs (p.1,.slice pa p.1.near.length pc))<=tot qs+(1+p.1.near.length):=htp;obtain⟨Q,hQ⟩:∃ Q,Q=putL qs (p.1,.slice pa p.1.near.length pc):=⟨_,rfl⟩;rw [<-hQ] at HP HF2 htp2;unfold recC at HP;simp only [] at HP
    clear hno hno2 hin hse htp hp HF htk hQ
    go_wp2_with fail
    refine HP.out.mono ?_
    rintro e w2 ⟨y,rfl,hy,b2⟩;obtain⟨ya,yc,rfl⟩:=Zac hy.row;have HY:=hide hy;have HB2:=hide (HB.out.trans (b2.mono HB.out.size));clear hy b2 HP HB BA
    go_wp2
    go_roundw
    case rel=>exact ⟨k+1,_,Q,by omega,by go_num,rfl,HY.out,HF2,by have:=HTK.out;omega,HB2.out⟩
    case measure=>simp [intOf];omega
  ·have hkn:¬(k:Int)<(ts.length:Int):=by omega
   have HE:=hide (show fsts qs=Zd5 (fsts ps) (fsts ts) by have h:=HF.out;rw [List.take_of_length_le (by simp [fsts];omega)] at h;exact h)
   have HI:=hide hin;have hq:tot qs<=tot ps+tot ts:=by have:=Zjl ts k;omega
   clear hin HF
   go_wp2
   go_ret
   first
    | exact ⟨_,qs,rfl,HE.out,HI.out,hq,hnx⟩
    | exact ⟨_,rfl,qs,HE.out,HI.out,hq,hnx⟩
end Go.Proofs.YtgdgkgmjpnbbcaaGreat
namespace Go.Proofs.YtgdgkgmjpnbbcaaGreat

def ZcO (v:Nat):Prop:=1<=v/\v<=6

structure Links (L:Nat->Nat->Int) (K:Int):Prop where
 pos:∀ u v,0<=L u v
 le:∀ u v,L u v<=K
 node:∀ u v,0<L u v->ZcO u/\ZcO v

def Zdx (src:Nat)(h:Nat->List Int)(u v:Nat)(x:Int):Prop:=(u=src/\x=(v:Int))\/(u≠src/\x∈h u)

structure Inv (L:Nat->Nat->Int) (src:Nat) (F:Nat->Bool) (c:Nat->Int) (h:Nat->List Int):Prop where
 fnode:∀ v,F v=true->ZcO v/\0<=c v
 cnode:∀ v,0<=c v->ZcO v
 start:c src=0
 start0:h src=[]
 closed:∀ u v,F u=true->0<L u v->0<=c v/\c v<=c u+L u v
 pred:∀ v,v≠src->0<=c v->∃ u,F u=true/\0<L u v/\c v=c u+L u v
 mono:∀ u v,F u=true->F v=false->0<=c v->c u<=c v
 hop:∀ v,v≠src->∀ x,x∈h v↔0<=c v/\∃ u,F u=true/\0<L u v/\c v=c u+L u v/\Zdx src h u v x
 asc:∀ v,(h v).Pairwise (· < ·)
 rng:∀ v x,x∈h v->1<=x/\x<=6

def Zaz (L:Nat->Nat->Int)(c:Nat->Int)(u v:Nat):Int:=
 if 0<L u v/\(c v<0\/c u+L u v<c v) then c u+L u v else c v

theorem Zi8 {L:Nat->Nat->Int}{c:Nat->Int}{u v:Nat}(h:0<=c v):Zaz L c u v<=c v:=by
 unfold Zaz;split <;> omega

theorem ZmR {L:Nat->Nat->Int}{c:Nat->Int}{u v:Nat}(hu:0<=c u)(h:0<=c v):0<=Zaz L c u v:=by
 unfold Zaz;split <;> omega

theorem ZdF {L:Nat->Nat->Int}{c:Nat->Int}{u v:Nat}(h0:0<=c v)(h:c v<=c u):Zaz L c u v=c v:=by
 unfold Zaz;split <;> omega

structure RelaxH (L:Nat->Nat->Int) (src:Nat) (c:Nat->Int) (h:Nat->List Int) (u v:Nat) (h':List Int):Prop where
 asc:h'.Pairwise (· < ·)
 mem:∀ x,x∈h'↔((x∈h v/\Zaz L c u v=c v)\/(0<L u v/\Zaz L c u v=c u+L u v/\Zdx src h u v x))

theorem Inv.step {L:Nat->Nat->Int}{K:Int}{src:Nat}{F:Nat->Bool}{c:Nat->Int}{h:Nat->List Int}(I:Inv L src F c h)(hL:Links L K)
  {u:Nat} (hu:F u=false) (hcu:0<=c u) (hmin:∀ v,F v=false->0<=c v->c u<=c v) {h':Nat->List Int} (hh:∀ v,RelaxH L src c h u v (h' v)):
  Inv L src (fun v=>F v||v==u) (fun v=>Zaz L c u v) h':=by
 have hup:∀ v,F v=true->c v<=c u:=fun v hv=>I.mono v u hv hu hcu
 have keep:∀ v,F v=true->Zaz L c u v=c v:=fun v hv=>ZdF (I.fnode v hv).2 (hup v hv)
 have keepu:Zaz L c u u=c u:=ZdF hcu (Int.le_refl _);have hsrc:Zaz L c u src=0:=by
  have:=I.start;unfold Zaz;split <;> omega
 have hFn:∀ v,F v=true->v≠u:=fun v hv e=>by rw [e,hu] at hv;cases hv
 -- hops of done nodes and of u stay
 have hsame:∀ v,0<=c v->c v<=c u->∀ x,x∈h' v↔x∈h v:=by
  intro v h0 hv x;rw [(hh v).mem x];have e:=ZdF (L:=L) h0 hv
  constructor
  ·rintro (⟨h1,_⟩ | ⟨h1,h2,_⟩)
   ·exact h1
   ·omega
  ·intro h1;exact .inl ⟨h1,e⟩
 have hover:∀ w,(F w=true\/w=u)->∀ v x,Zdx src h' w v x↔Zdx src h w v x:=by
  intro w hw v x;have:∀ x,x∈h' w↔x∈h w:=by
   rcases hw with hw | rfl
   ·exact hsame w (I.fnode w hw).2 (hup w hw)
   ·exact hsame _ hcu (Int.le_refl _)
  unfold Zdx;rw [this x]
 have hFu:∀ v,(F v||v==u)=true↔(F v=true\/v=u):=by
  intro v;simp
 refine⟨?_,?_,hsrc,?_,?_,?_,?_,?_,fun v=>(hh v).asc,?_⟩
 ·intro v hv
  rcases (hFu v).1 hv with h1 | rfl
  ·refine ⟨(I.fnode v h1).1,?_⟩
   show 0<=Zaz L c u v
   rw [keep v h1];exact (I.fnode v h1).2
  ·refine ⟨I.cnode _ hcu,?_⟩
   show 0<=Zaz L c _ _
   rw [keepu];exact hcu
 ·intro v hv
  have hv':0<=Zaz L c u v:=hv;unfold Zaz at hv'
  split at hv'
  ·rename_i h1;exact (hL.node u v h1.1).2
  ·exact I.cnode v hv'
 ·have:∀ x,x ∉ h' src:=by
   intro x hx;rw [(hh src).mem x,I.start0] at hx
   rcases hx with ⟨h1,_⟩ | ⟨h1,h2,_⟩
   ·cases h1
   ·rw [hsrc] at h2;omega
  exact List.eq_nil_iff_forall_not_mem.2 this
 ·intro w v hw hl
  show 0<=Zaz L c u v/\Zaz L c u v<=Zaz L c u w+L w v
  rcases (hFu w).1 hw with h1 | rfl
  ·rw [keep w h1]
   have:=I.closed w v h1 hl;have h2:=Zi8 (L:=L) (u:=u) this.1;have h3:=ZmR (L:=L) hcu this.1;omega
  ·rw [keepu]
   unfold Zaz
   split <;> omega
 ·intro v hv h0
  have h0':0<=Zaz L c u v:=h0
  show ∃ w,(F w||w==u)=true/\0<L w v/\Zaz L c u v=Zaz L c u w+L w v
  by_cases h1:0<L u v/\(c v<0\/c u+L u v<c v)
  ·refine ⟨u,by simp,h1.1,?_⟩
   rw [keepu];unfold Zaz;rw [if_pos h1]
  ·have e:Zaz L c u v=c v:=by unfold Zaz;rw [if_neg h1]
   rw [e] at h0' |-;obtain⟨w,hw,hl,hc⟩:=I.pred v hv h0';exact⟨w,by simp [hw],hl,by rw [keep w hw];exact hc⟩
 ·intro w v hw hv h0
  have h0':0<=Zaz L c u v:=h0;have hv1:F v=false:=by cases hfv:F v <;> simp [hfv] at hv |-
  show Zaz L c u w<=Zaz L c u v
  have hwc:Zaz L c u w<=c u:=by
   rcases (hFu w).1 hw with h1 | rfl
   ·rw [keep w h1];exact hup w h1
   ·rw [keepu];omega
  have huv:c u<=Zaz L c u v:=by
   by_cases h1:0<L u v/\(c v<0\/c u+L u v<c v)
   ·unfold Zaz;rw [if_pos h1];omega
   ·have e:Zaz L c u v=c v:=by unfold Zaz;rw [if_neg h1]
    rw [e] at h0' |-;exact hmin v hv1 h0'
  omega
 ·intro v hv x
  show x∈h' v↔0<=Zaz L c u v/\∃ w,(F w||w==u)=true/\0<L w v/\Zaz L c u v=Zaz L c u w+L w v/\Zdx src h' w v x
  rw [(hh v).mem x]
  constructor
  ·rintro (⟨h1,h2⟩ | ⟨h1,h2,h3⟩)
   ·obtain ⟨h0,w,hw,hl,hc,ho⟩:=(I.hop v hv x).1 h1
    rw [h2];exact⟨h0,w,by simp [hw],hl,by rw [keep w hw];exact hc,(hover w (.inl hw) v x).2 ho⟩
   ·refine ⟨by omega,u,by simp,h1,by rw [keepu];exact h2,(hover u (.inr rfl) v x).2 h3⟩
  ·rintro ⟨h0,w,hw,hl,hc,ho⟩
   rcases (hFu w).1 hw with h1 | rfl
   ·rw [keep w h1] at hc
    have hcl:=I.closed w v h1 hl;have h3:=Zi8 (L:=L) (u:=u) hcl.1;have e:Zaz L c u v=c v:=by omega
    refine .inl ⟨(I.hop v hv x).2 ⟨hcl.1,w,h1,hl,by omega,(hover w (.inl h1) v x).1 ho⟩,e⟩
   ·rw [keepu] at hc
    exact .inr ⟨hl,hc,(hover _ (.inr rfl) v x).1 ho⟩
 ·intro v x hx
  rw [(hh v).mem x] at hx
  rcases hx with ⟨h1,_⟩ | ⟨h1,_,h3⟩
  ·exact I.rng v x h1
  ·rcases h3 with ⟨_,rfl⟩ | ⟨_,h4⟩
   ·have:=(hL.node u v h1).2;unfold ZcO at this;omega
   ·exact I.rng u x h4

theorem ZhJ:∀ {a b:List Int},a.Pairwise (· < ·)->b.Pairwise (· < ·)->(∀ x,x∈a↔x∈b)->a=b
 | [],[],_,_,_=>rfl
 | [],y::ys,_,_,h=>by have:=(h y).2 (by simp);cases this
 | x::xs,[],_,_,h=>by have:=(h x).1 (by simp);cases this
 | x::xs,y::ys,ha,hb,h=>by
  have ha':=List.pairwise_cons.1 ha;have hb':=List.pairwise_cons.1 hb;have hxy:x=y:=by
   have h1:=(h x).1 (by simp)
   have h2:=(h y).2 (by simp)
   rcases List.mem_cons.1 h1 with e | e
   ·exact e
   ·rcases List.mem_cons.1 h2 with e2 | e2
    ·exact e2.symm
    ·have:=ha'.1 y e2;have:=hb'.1 x e;omega
  subst hxy;have:xs=ys:=by
   refine ZhJ ha'.2 hb'.2 (fun z=>?_)
   have hz:=h z
   constructor
   ·intro hm
    have h1:=hz.1 (List.mem_cons_of_mem _ hm)
    rcases List.mem_cons.1 h1 with e | e
    ·have:=ha'.1 z hm;omega
    ·exact e
   ·intro hm
    have h1:=hz.2 (List.mem_cons_of_mem _ hm)
    rcases List.mem_cons.1 h1 with e | e
    ·have:=hb'.1 z hm;omega
    ·exact e
  rw [this]

def Fix (L:Nat->Nat->Int)(src:Nat)(c:Nat->Int)(h:Nat->List Int):Prop:=∃ F,Inv L src F c h/\∀ v,0<=c v->F v=true

theorem Fix.cost_le {L:Nat->Nat->Int}{src:Nat}{c d:Nat->Int}{h g:Nat->List Int}(A:Fix L src c h)(B:Fix L src d g):
  ∀ (n:Nat) (v:Nat),0<=c v->(c v).toNat<=n->0<=d v/\d v<=c v:=by
 obtain⟨F,I,hF⟩:=A;obtain⟨G,J,hG⟩:=B;intro n
 induction n with
 | zero=>
  intro v h0 hn;by_cases hv:v=src
  ·subst hv;rw [J.start];omega
  ·obtain ⟨u,hu,hl,hc⟩:=I.pred v hv h0
   have:=(I.fnode u hu).2;omega
 | succ n ih=>
  intro v h0 hn;by_cases hv:v=src
  ·subst hv;rw [J.start,I.start];omega
  ·obtain ⟨u,hu,hl,hc⟩:=I.pred v hv h0
   have h1:=(I.fnode u hu).2;have h2:=ih u h1 (by omega)
   have h3:=J.closed u v (hG u h2.1) hl;omega

theorem Fix.cost {L:Nat->Nat->Int}{src:Nat}{c d:Nat->Int}{h g:Nat->List Int}(A:Fix L src c h)(B:Fix L src d g)(v:Nat)(h0:0<=c v):d v=c v:=by
 have h1:=A.cost_le B _ v h0 (Nat.le_refl _);have h2:=B.cost_le A _ v h1.1 (Nat.le_refl _);omega

theorem Fix.hops_sub {L:Nat->Nat->Int}{src:Nat}{c d:Nat->Int}{h g:Nat->List Int}(A:Fix L src c h)(B:Fix L src d g):
  ∀ (n:Nat) (v:Nat),0<=c v->(c v).toNat<=n->∀ x,x∈h v->x∈g v:=by
 have hcost:=A.cost B;obtain⟨F,I,hF⟩:=A;obtain⟨G,J,hG⟩:=B;intro n
 induction n with
 | zero=>
  intro v h0 hn x hx;by_cases hv:v=src
  ·subst hv;rw [I.start0] at hx;cases hx
  ·obtain ⟨u,hu,hl,hc⟩:=I.pred v hv h0
   have:=(I.fnode u hu).2;omega
 | succ n ih=>
  intro v h0 hn x hx;by_cases hv:v=src
  ·subst hv;rw [I.start0] at hx;cases hx
  ·obtain ⟨_,u,hu,hl,hc,ho⟩:=(I.hop v hv x).1 hx
   have h1:=(I.fnode u hu).2;have eu:=hcost u h1;have ev:=hcost v h0;refine (J.hop v hv x).2 ⟨by omega,u,hG u (by omega),hl,by omega,?_⟩
   rcases ho with h3 | ⟨h3,h4⟩
   ·exact .inl h3
   ·exact .inr ⟨h3,ih u h1 (by omega) x h4⟩

theorem Fix.hops {L:Nat->Nat->Int}{src:Nat}{c d:Nat->Int}{h g:Nat->List Int}(A:Fix L src c h)(B:Fix L src d g)(v:Nat)(h0:0<=c v):g v=h v:=by
 have e:=A.cost B v h0;have sub1:=A.hops_sub B _ v h0 (Nat.le_refl _);have sub2:=B.hops_sub A _ v (by omega:0<=d v) (Nat.le_refl _)
 obtain⟨F,I,_⟩:=A;obtain⟨G,J,_⟩:=B;exact ZhJ (J.asc v) (I.asc v) (fun x=>⟨sub2 x,sub1 x⟩)

theorem Inv.init {L:Nat->Nat->Int}{src:Nat}(hs:ZcO src):Inv L src (fun _=>false) (fun v=>if v=src then 0 else -1) (fun _=>[]):=by
 refine⟨by simp,?_,by simp,rfl,by simp,?_,by simp,?_,by simp,by simp⟩
 ·intro v hv
  have hv':(0:Int)<=if v=src then 0 else -1:=hv
  split at hv'
  ·rename_i e;rw [e];exact hs
  ·omega
 ·intro v hv h0
  have h0':(0:Int)<=if v=src then 0 else -1:=h0
  rw [if_neg hv] at h0';omega
 ·intro v hv x
  simp [hv]
end Go.Proofs.YtgdgkgmjpnbbcaaGreat
namespace Go.Proofs.YtgdgkgmjpnbbcaaGreat
open Go.RowKit
set_option linter.unusedSimpArgs false
set_option linter.unusedVariables false
set_option maxRecDepth 100000
set_option maxHeartbeats 8000000
theorem Zcw {P:Program}{fn:Func}{p u:Tmp}{ty:TypeId}(h:fn.results=#[.cell p ty,.tmp u])(tmps:Array Value)(w:World)(g:Nat)(t:TypeId)(cs:Array Value)(fr:Nat × Nat)(d:TypeDesc)
  (hp:tmps.getD p undef=.pointer (some ⟨g,0,none⟩)) (hg:w.heap[g]? = some (.cells cs t fr))
  (hu:P.underlying ty=some d) (hd:(match d with | .struct _ | .array _ _=>true | _=>false)=true) (hi:(P.info? ty).map (·.size)=some cs.size):
  (results fn tmps).run P w=.ok (.tuple #[.agg cs,tmps.getD u undef]) w:=by
 have hp':tmps[p]?.getD undef=.pointer (some ⟨g,0,none⟩):=by simpa using hp
 rw [results_cell_tmp h];simp [hp',asAddr,run_loadVar_row w g t ty cs fr d hg hu hd hi]
def ZiH (xs:List RecD)(r:RecD):RecD:=if atZ xs r<0 then ZbM else xs.getD (atZ xs r).toNat ZbM
def Zg0 (xs:List RecD)(r:RecD):Bool := !decide (atZ xs r<0)
theorem ZiJ {xs:List RecD}{r:RecD}(h:atZ xs r = -1):ZiH xs r=ZbM/\Zg0 xs r=false:=by unfold ZiH Zg0;rw [h];exact⟨rfl,rfl⟩
theorem Zl4 {xs:List RecD}{r y:RecD}{k:Nat}(h:atZ xs r=(k:Int))(hy:xs[k]? = some y):ZiH xs r=y/\Zg0 xs r=true:=by
 unfold ZiH Zg0;rw [h,if_neg (by omega)]
 exact⟨by simp [hy],by simp⟩
theorem Zhg {ps:List RP}{k:Nat}{y:RecD}(h:(fsts ps)[k]? = some y):∃ p,ps[k]? = some p/\p.1=y:=by
 simp [fsts] at h
 obtain⟨v,hv⟩:=h;exact⟨(y,v),hv,rfl⟩
def Zem (area node:Int):RecD:=⟨area,1,node,0,0,[],0,false⟩
def Zcy (xs:List RecD)(area node:Int):RecD:=ZiH xs (Zem area node)
def Zfy (xs:List RecD)(area node:Int):Bool:=Zg0 xs (Zem area node)
def ZgU (ns:List Nr)(b:Int):Int:=match ns.find? (fun n=>n.to==b) with
 | some n=>n.c
 | none=>0
def Zfl (xs:List RecD)(area a b:Int):Int:=ZgU (Zcy xs area a).near b
theorem Zmx (W:World)(B:Nat):ZaB W (.slice none 0 0) [] B:=⟨none,0,rfl,.inl rfl⟩
theorem ZgQ (v:Value)(ps:List RP)(hi:Nat)(area node:Int)(w:World)(hv:RecsIn w hi v ps)(hhi:hi<=w.heap.size)(hn:tot ps<=1048576):
  Calls Tryz.prog 33 #[v,.int .i64 area,.int .i64 node] w fun e w'=>∃ u,e=.returned (.tuple #[.agg (recC (Zcy (fsts ps) area node) u),.bool (Zfy (fsts ps) area node)])/\ZaB w' u (Zcy (fsts ps) area node).near hi/\(Zcy (fsts ps) area node).near.length<=1048576/\Below w.heap.size w w':=by
 have hnl:=ZbI ps;obtain⟨a1,c1,rfl⟩:=Zac hv.row;have BX:Below w.heap.size w (w.alloc (.cells #[.int .i64 0,.int .i64 0,.int .i64 0,.int .i64 0,.int .i64 0,.slice none 0 0,.int .i64 0,.bool false] 59)):=(Below.refl _ _).alloc (Nat.le_refl _) _;have hq:=heap_alloc_new w (.cells #[.int .i64 0,.int .i64 0,.int .i64 0,.int .i64 0,.int .i64 0,.slice none 0 0,.int .i64 0,.bool false] 59);obtain⟨w0,hw0⟩:∃ W,W=w.alloc (.cells #[.int .i64 0,.int .i64 0,.int .i64 0,.int .i64 0,.int .i64 0,.slice none 0 0,.int .i64 0,.bool false] 59):=⟨_,rfl⟩;rw [<-hw0] at BX hq;have hs0:=Zab hq;have HAT:=hide (Zom (.slice a1 ps.length c1) ps hi (Zem area node,.slice none 0 0) w0 (hv.below BX hhi) (by have:=BX.size;omega) hn)
 unfold recC Zem at HAT;simp only [] at HAT
 have HV:=hide hv;clear hv;unfold Zcy Zfy;obtain⟨nr,hnr⟩:∃ r,r=Zem area node:=⟨_,rfl⟩;rw [show (⟨area,1,node,0,0,[],0,false⟩:RecD)=nr from hnr.symm] at HAT
 rw [<-hnr];clear hnr
 rcases ZeQ (fsts ps) nr with hz | ⟨j,y,hz,hy,_⟩
 ·obtain ⟨e1,e2⟩:=ZiJ hz
  rw [e1,e2];rw [hz] at HAT;clear hz e1 e2;unfold recC
  go_enter Tryz.func33,Tryz.ntmps33
  go_wp2_with fail
  rw [<-hw0];clear hw0;refine HAT.out.mono ?_
  rintro e w1 ⟨rfl,b1⟩;have B1:Below w.heap.size w w1:=BX.trans (b1.mono BX.size);have hz1:=(b1.block _ hs0).trans hq;clear b1 hq HAT;have u0:=Zaa hz1 0;have u1:=Zaa hz1 1;have u2:=Zaa hz1 2;have u3:=Zaa hz1 3;have u4:=Zaa hz1 4;have u5:=Zaa hz1 5;have u6:=Zaa hz1 6;have u7:=Zaa hz1 7;simp at u0 u1 u2 u3 u4 u5 u6 u7
  have fu:=Zae hz1;have FF:=hide (ZoU ZbM (.slice none 0 0) hz1);have G8:=hide (ZjD w1 w.heap.size ZbM (.slice none 0 0));clear hz1
  go_wp2_with fail
  (try simp only [Exit.inBlock,Exit.then])
  refine bodyPost_ret (Zcw rfl _ _ w.heap.size 59 (recC ZbM (.slice none 0 0)) (0,0) _ rfl FF.out Tryz.underlying59 rfl (by kernel_rfl)) rfl ?_
  exact⟨.slice none 0 0,rfl,Zmx _ _,(by simp [ZbM]),B1.grown G8.out B1.size (fun k hk=>by simp at hk;omega)⟩
 ·obtain ⟨e1,e2⟩:=Zl4 hz hy
  rw [e1,e2];obtain⟨t,htj,hty⟩:=Zhg hy;have hjl:j<ps.length:=(List.getElem?_eq_some_iff.1 htj).1;have hji:(0:Int)<=(j:Int):=by omega
  have hjj:(j:Int)<(ps.length:Int):=by omega
  have hj0:¬(j:Int)<0:=by omega
  rw [hz] at HAT;obtain⟨b,off,cp,hve,hbb,c0,c1,c2,c3,c4,c5,c6,c7,hnr⟩:=HV.out.at.cells j t htj;cases hve
  have hbw:b<w.heap.size:=by omega
  obtain⟨pa,pc,hpn⟩:=ZaB.shape hnr;rw [hpn] at c5 hnr;have HNL:=hide (show t.1.near.length<=1048576 by have:=ZgX (List.mem_of_getElem? htj);omega)
  have HNR:=hide hnr;subst hty;clear hz hy htj e1 e2 hpn hnr;unfold recC
  go_enter Tryz.func33,Tryz.ntmps33
  go_wp2_with fail
  rw [<-hw0];clear hw0;refine HAT.out.mono ?_
  rintro e w1 ⟨rfl,b1⟩;have B1:Below w.heap.size w w1:=BX.trans (b1.mono BX.size);have hz1:=(b1.block _ hs0).trans hq;clear b1 hq HAT;rw [<-B1.cell (p:=⟨b,off+j*8,none⟩) hbw] at c0;rw [<-B1.cell (p:=⟨b,off+j*8+1,none⟩) hbw] at c1;rw [<-B1.cell (p:=⟨b,off+j*8+2,none⟩) hbw] at c2;rw [<-B1.cell (p:=⟨b,off+j*8+3,none⟩) hbw] at c3;rw [<-B1.cell (p:=⟨b,off+j*8+4,none⟩) hbw] at c4;rw [<-B1.cell (p:=⟨b,off+j*8+5,none⟩) hbw] at c5;rw [<-B1.cell (p:=⟨b,off+j*8+6,none⟩) hbw] at c6;rw [<-B1.cell (p:=⟨b,off+j*8+7,none⟩) hbw] at c7;obtain⟨z,hzz⟩:∃ z,z=w.heap.size:=⟨_,rfl⟩;rw [<-hzz] at hz1 |-;have HZ:=hide hzz;clear hzz;have u0:=Zaa hz1 0;have u1:=Zaa hz1 1;have u2:=Zaa hz1 2;have u3:=Zaa hz1 3;have u4:=Zaa hz1 4;have u5:=Zaa hz1 5;have u6:=Zaa hz1 6;have u7:=Zaa hz1 7;simp at u0 u1 u2 u3 u4 u5 u6 u7
  have fu:=Zae hz1;have HZ1:=hide hz1;have FIN:∀ W,W=Zll w1 z t.1 (.slice pa t.1.near.length pc)->ZaB W (.slice pa t.1.near.length pc) t.1.near hi/\Below w.heap.size w W:=by
   intro W hW;have G8:=ZjD w1 z t.1 (.slice pa t.1.near.length pc);rw [<-hW] at G8;have BF:Below w.heap.size w W:=B1.grown G8 B1.size (fun k hk=>by have:=HZ.out;simp at hk;omega)
   exact⟨ZaR.later HNR.out BF hhi,BF⟩
  have HFIN:=hide FIN;clear hz1 FIN HNR B1 HV BX hs0 hjl hbb hbw
  go_wp2_with fail
  (try simp only [Exit.inBlock,Exit.then])
  refine bodyPost_ret (Zcw rfl _ _ z 59 (recC t.1 (.slice pa t.1.near.length pc)) (0,0) _ rfl (ZoU t.1 (.slice pa t.1.near.length pc) HZ1.out) Tryz.underlying59 rfl (by kernel_rfl)) rfl ?_
  obtain⟨W5,hW5⟩:∃ W,W=Zll w1 z t.1 (.slice pa t.1.near.length pc):=⟨_,rfl⟩;have h:=HFIN.out W5 hW5;subst hW5;exact⟨_,rfl,h.1,HNL.out,h.2⟩
theorem Zm4 {ns:List Nr}{k:Nat}{n:Nr}{b:Int}(h:ns[k]? = some n)(hno:∀ q∈ns.take k,q.to≠b)(hb:n.to=b):ZgU ns b=n.c:=by
 have e:ns.find? (fun x=>x.to==b)=some n:=by
  obtain⟨hk,e1⟩:=List.getElem?_eq_some_iff.1 h;rw [List.find?_eq_some_iff_append];refine⟨by simpa using hb,ns.take k,ns.drop (k+1),?_,?_⟩
  ·rw [<-e1, <-List.drop_eq_getElem_cons hk,List.take_append_drop]
  ·intro x hx
   simpa using hno x hx
 unfold ZgU;rw [e]
theorem ZlC {ns:List Nr}{b:Int}(hno:∀ q∈ns,q.to≠b):ZgU ns b=0:=by
 have e:ns.find? (fun x=>x.to==b)=none:=by
  rw [List.find?_eq_none];intro x hx
  simpa using hno x hx
 unfold ZgU;rw [e]
theorem Zjg {ns:List Nr}{k:Nat}{n:Nr}{b:Int}(h:ns[k]? = some n)(hno:∀ q∈ns.take k,q.to≠b)(hz:n.to≠b):∀ q∈ns.take (k+1),q.to≠b:=by
 obtain⟨hk,e⟩:=List.getElem?_eq_some_iff.1 h;rw [List.take_succ_eq_append_getElem hk,e];intro q hq
 rcases List.mem_append.1 hq with h1 | h1
 ·exact hno q h1
 ·have:q=n:=by simpa using h1
  subst this;exact hz
theorem ZlB (v:Value)(ps:List RP)(hi:Nat)(area a b:Int)(w:World)(hv:RecsIn w hi v ps)(hhi:hi<=w.heap.size)(hn:tot ps<=1048576):
  Calls Tryz.prog 75 #[v,.int .i64 area,.int .i64 a,.int .i64 b] w fun e w'=>e=.returned (.int .i64 (Zfl (fsts ps) area a b))/\Below w.heap.size w w':=by
 have HNO:=hide (ZgQ v ps hi area a w hv hhi hn);obtain⟨a1,c1,rfl⟩:=Zac hv.row;clear hv;unfold Zfl;obtain⟨D,hD⟩:∃ D,D=Zcy (fsts ps) area a:=⟨_,rfl⟩;rw [<-hD] at HNO;rw [<-hD];clear hD;obtain⟨X,hX⟩:∃ X,X=ZgU D.near b:=⟨_,rfl⟩;rw [<-hX];have HX:=hide hX;clear hX;unfold recC at HNO
 go_enter Tryz.func75,Tryz.ntmps75
 go_wp2_with fail
 refine HNO.out.mono ?_
 rintro e w1 ⟨u,rfl,hu,hul,b1⟩;obtain⟨ua,uc,rfl⟩:=ZaB.shape hu;have hx:=heap_alloc_new w1 (.cells #[.int .i64 D.area,.int .i64 D.kind,.int .i64 D.owner,.int .i64 D.key,.int .i64 D.seq,.slice ua D.near.length uc,.int .i64 D.cost,.bool D.far] 59);have BX:Below w1.heap.size w1 (w1.alloc (.cells #[.int .i64 D.area,.int .i64 D.kind,.int .i64 D.owner,.int .i64 D.key,.int .i64 D.seq,.slice ua D.near.length uc,.int .i64 D.cost,.bool D.far] 59)):=(Below.refl _ _).alloc (Nat.le_refl _) _;obtain⟨w2,hw2⟩:∃ W,W=w1.alloc (.cells #[.int .i64 D.area,.int .i64 D.kind,.int .i64 D.owner,.int .i64 D.key,.int .i64 D.seq,.slice ua D.near.length uc,.int .i64 D.cost,.bool D.far] 59):=⟨_,rfl⟩;rw [<-hw2] at hx BX;have B2:Below w.heap.size w w2:=b1.trans (BX.mono b1.size);have HU:Hid (ZaB w2 (.slice ua D.near.length uc) D.near w2.heap.size):=hide ((ZaR.later hu BX (Nat.le_trans hhi b1.size)).more (Nat.le_trans hhi B2.size));have hs2:=Zab hx;have HXX:=hide hx;clear hu hx
 go_wp2
 rw [<-hw2];clear hw2
 go_loopw [11] (fun i wr=>∃ k:Nat,k<=D.near.length/\i=.int .i64 k/\Hid (∀ q∈D.near.take k,q.to≠b)/\Below w2.heap.size w2 wr) (fun i _=>D.near.length-(intOf i).toNat)
 case atStart=>exact ⟨0,by omega,rfl,hide (by simp),Below.refl _ _⟩
 case round=>
  obtain⟨k,hk,rfl,HNN,hnx⟩:=hrel;have hx2:=(hnx.block _ hs2).trans HXX.out;have d5:=Zaa hx2 5;simp at d5
  clear hx2;have BWR:Below w.heap.size w wr:=B2.trans (hnx.mono B2.size);by_cases hlt:k<D.near.length
  ·obtain ⟨n,hnk⟩:∃ n,D.near[k]? = some n:=⟨D.near[k],List.getElem?_eq_getElem hlt⟩
   obtain⟨g,off,cap',hve,hbb,c0,c1⟩:=HU.out.cells k n hnk;cases hve
   rw [<-hnx.cell (p:=⟨g,off+k*2,none⟩) hbb] at c0;rw [<-hnx.cell (p:=⟨g,off+k*2+1,none⟩) hbb] at c1;have hki:(0:Int)<=(k:Int):=by omega
   have hkj:(k:Int)<(D.near.length:Int):=by omega
   by_cases hzz:n.to=b
   ·have HF:=hide (HX.out.trans (Zm4 hnk HNN.out hzz))
    rw [hzz] at c0;clear hnk hzz
    go_wp2
    go_ret
    exact⟨by rw [HF.out];rfl,BWR⟩
   ·have HN:=hide (Zjg hnk HNN.out hzz)
    have hd:(n.to==b)=false:=by simpa using hzz
    clear hnk
    go_wp2
    go_roundw
    case rel=>exact ⟨k+1,by omega,by go_num,HN,hnx⟩
    case measure=>simp [intOf];omega
  ·have HF:=hide (HX.out.trans (ZlC (by have h:=HNN.out;rw [List.take_of_length_le (by omega)] at h;exact h)))
   go_wp2
   go_ret
   exact⟨by rw [HF.out];rfl,BWR⟩
def intE (z:Int):List Value:=[.int .i64 z]
theorem Zea (z:Int):(intE z).length=1:=rfl
theorem Zcq (l:List Int):flat intE l=ZbH l:=by
 induction l with
 | nil=>rfl
 | cons x l ih=>rw [Zcv,ih];rfl
def ZaP (W:World)(v:Value)(l:List Int)(B:Nat):Prop:=Za5 intE 1 W v l B
theorem ZaP.then {W W':World}{v:Value}{l:List Int}(h:ZaP W v l W.heap.size)(hb:Below W.heap.size W W'):ZaP W' v l W'.heap.size:=ZaR.then h hb
theorem ZaP.shape {W:World}{v:Value}{l:List Int}{B:Nat}(h:ZaP W v l B):∃ a cap,v=.slice a l.length cap:=by obtain ⟨a,cap,h,_⟩:=h;exact⟨a,cap,h⟩
theorem ZaP.cell {W:World}{v:Value}{l:List Int}{B:Nat}(h:ZaP W v l B)(i:Nat)(z:Int)(hz:l[i]? = some z):∃ b off cap,v=.slice (some ⟨b,off,none⟩) l.length cap/\b<B/\W.cell? ⟨b,off+i,none⟩=some (.int .i64 z):=by
 obtain⟨b,off,cap,hv,hb,hc⟩:=Za5.cell h Zea i z hz;exact⟨b,off,cap,hv,hb,by have:=hc 0 _ rfl;simpa using this⟩
theorem ZaW {W:World}{base:Nat}{v:Value}{l:List Int}(h:W.ownsRow base 3 1 v l.length (flat intE l)):ZaP W v l W.heap.size:=Zar h
structure WayD where
 to:Int
 cost:Int
 hops:List Int
 deriving DecidableEq
def wayC (x:WayD)(v:Value):Array Value:=#[.int .i64 x.to,.int .i64 x.cost,v]
def ZoP (W:World)(v:Value)(x:WayD)(B:Nat):Prop:=∃ v1,v=.agg (wayC x v1)/\ZaP W v1 x.hops B
theorem ZoP.then {W W':World}{v:Value}{x:WayD}(h:ZoP W v x W.heap.size)(hb:Below W.heap.size W W'):ZoP W' v x W'.heap.size:=by
 obtain⟨v1,hv,h1⟩:=h;exact⟨v1,hv,h1.then hb⟩

end Go.Proofs.YtgdgkgmjpnbbcaaGreat
