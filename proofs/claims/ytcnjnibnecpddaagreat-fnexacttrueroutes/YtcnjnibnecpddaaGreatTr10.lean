/-
  Parts.
-/
import Derived.Test.YtcnjnibnecpddaaGreatTr9
import Derived.Test.YtcnjnibnecpddaaGreatTr8
namespace Go.Proofs.YtcnjnibnecpddaaGreat
open Go.RowKit
set_option linter.unusedSimpArgs false
set_option linter.unusedVariables false
set_option maxRecDepth 100000
set_option maxHeartbeats 8000000
variable {k lo n z:Nat}{u:Value}{W W':World}
def putL (ps:List RP)(r:RP):List RP:=ps.filter (fun p=>Zam p.1 r.1)++[r]++ps.filter (fun p=>Zam r.1 p.1)
theorem Zed {ps:List RP}{p:RP}(f:RP->Bool)(h:ps[k]? = some p):(ps.take (k+1)).filter f=(ps.take k).filter f++(if f p then [p] else []):=by
 obtain⟨hk,e⟩:=YAD.1 h;rw [YAI hk,List.filter_append,e];congr 1;by_cases hf:f p <;> simp [hf]
theorem Zrc (v:Value)(ps:List RP)(hi:Nat)(r:RP)(w:World)(hv:RecsIn w hi v ps)(hhi:hi<=w.heap.size)(hn:tot ps<=1048576)(hr:ZaH w 0 hi r):
  Calls Tryz.prog 63 #[v,.agg (recC r.1 r.2)] w fun e w'=>∃ x,e=.returned x/\RecsIn w' w'.heap.size x (putL ps r)/\T_ w w'/\∀ k,x.ownBlock=some k->w.heap.size<=k:=by
 unfold putL;have hnl:=Zby ps;obtain⟨a1,c1,rfl⟩:=Zac hv.row;obtain⟨ra,rc,hrn⟩:=Zac hr.1;have HRN:=hide hrn;have HR:=hide hr;have HV:=hide hv;unfold recC;rw [hrn];clear hv hr hrn;have BX:T_ w (w.alloc (.cells #[M r.1.area,M r.1.kind,M r.1.owner,M r.1.key,M r.1.seq,.slice ra r.1.near.length rc,M r.1.cost,.bool r.1.far] 39)):=(YAC _ _).alloc (YA _) _;have hx:=YAE w (.cells #[M r.1.area,M r.1.kind,M r.1.owner,M r.1.key,M r.1.seq,.slice ra r.1.near.length rc,M r.1.cost,.bool r.1.far] 39);obtain⟨w0,hw0⟩:∃ w0,w0=w.alloc (.cells #[M r.1.area,M r.1.kind,M r.1.owner,M r.1.key,M r.1.seq,.slice ra r.1.near.length rc,M r.1.cost,.bool r.1.far] 39):=⟨_,rfl⟩;have hs0:w0.heap.size=w.heap.size+1:=by rw [hw0];simp
 rw [<-hw0] at BX hx;have R0:=hide (YAe (e:=39) (size:=8) w0 #[] 0 (show w.heap.size+1<=w0.heap.size by omega) (by unfold maxLen;omega) (by simp));have B0:=hide (show T_ w0 (w0.alloc (.cells #[] 39)) from (YAC _ _).alloc (YA _) _);have HX:=hide hx;clear hx
 go_enter Tryz.func63,Tryz.ntmps63
 go_wp2;rw [<-hw0];rw [hs0] at R0;have hs0l:w.heap.size+1<=w0.heap.size:=by omega
 have hs0r:w0.heap.size<=w.heap.size+1:=by omega
 clear hs0 hw0;generalize w0.alloc (.cells #[] 39)=wL at *
 go_loopw [6,5] (fun i o wr=>∃ (k:Nat) (u:Value) (l:List RP),k<=ps.length/\i=M k/\o=u/\Hid (l=(ps.take k).filter (fun p=>Zam p.1 r.1))/\wr.ownsRow (w.heap.size+1) 39 8 u l.length (flat encP l)/\T_ w0 wr) (fun i _ _=>ps.length-(intOf i).toNat)
 case atStart=>exact ⟨0,_,[],by omega,rfl,rfl,rfl,by simpa [flat] using R0.out,B0.out⟩
 case round=>
  obtain⟨k,u,l,hk,rfl,rfl,HL,hown,hnx⟩:=hrel;obtain⟨ua,uc,rfl⟩:=Zac hown;have hsz:=hnx.size;have BWR:T_ w wr:=BX.trans (hnx.mono (by omega));have HQL:=hide (show l.length<=2097153 by rw [(HL).out];have h2:=List.length_filter_le (fun p:RP=>Zam p.1 r.1) (ps.take k);simp at h2 |-;omega);by_cases hlt:k<ps.length
  ·obtain ⟨p,hp⟩:∃ p,ps[k]? = some p:=⟨ps[k],YAA hlt⟩;have hat:=HV.out.at;obtain⟨b,off,cap',hve,hbb,c0,c1,c2,c3,c4,c5,c6,c7,hnr⟩:=hat.cells k p hp;cases hve;obtain⟨pa,pc,hpn⟩:=ZaG.shape hnr;rw [hpn] at c5;replace c0:=(BWR.cell (YAB hbb hhi)).trans c0;replace c1:=(BWR.cell (YAB hbb hhi)).trans c1;replace c2:=(BWR.cell (YAB hbb hhi)).trans c2;replace c3:=(BWR.cell (YAB hbb hhi)).trans c3;replace c4:=(BWR.cell (YAB hbb hhi)).trans c4;replace c5:=(BWR.cell (YAB hbb hhi)).trans c5;replace c6:=(BWR.cell (YAB hbb hhi)).trans c6;replace c7:=(BWR.cell (YAB hbb hhi)).trans c7;have hxx:=(hnx.block _ (Zab HX)).trans HX;have d0:=Zaa hxx 0;have d1:=Zaa hxx 1;have d2:=Zaa hxx 2;have d3:=Zaa hxx 3;have d4:=Zaa hxx 4;have d5:=Zaa hxx 5;have d6:=Zaa hxx 6;have d7:=Zaa hxx 7;simp at d0 d1 d2 d3 d4 d5 d6 d7;have hb1:b<wr.heap.size:=by omega
   have hb2:w.heap.size<wr.heap.size:=by omega
   have hki:(0:Int)<=(k:Int):=by omega
   have hkj:(k:Int)<(ps.length:Int):=by omega
   have hq:=fun W=>Zfp p.2 r.2 p.1 r.1 W;unfold recC at hq;rw [hpn,HRN.out] at hq;have hpe:p=(p.1,.slice pa p.1.near.length pc):=Prod.ext rfl hpn;obtain⟨q,hqq⟩:∃ q,q=Zam p.1 r.1:=⟨_,rfl⟩;rw [<-hqq] at hq;have HK:=hide hq;have hft:=Zed (fun p=>Zam p.1 r.1) hp;rw [<-hqq] at hft;have HFT:=hide hft;have HPE:=hide hpe;have OW:=hide hown;clear hq hqq hp hat hxx hnr hpn hft hpe hown;cases q
   ·go_wp2
    go_region_held3 (fun W=>W.cell? (U b (off+k*8))=some (M p.1.area)/\W.cell? (U b (off+k*8+1))=some (M p.1.kind)/\W.cell? (U b (off+k*8+2))=some (M p.1.owner)/\W.cell? (U b (off+k*8+3))=some (M p.1.key)/\W.cell? (U b (off+k*8+4))=some (M p.1.seq)/\W.cell? (U b (off+k*8+5))=some (.slice pa p.1.near.length pc)/\W.cell? (U b (off+k*8+6))=some (M p.1.cost)/\W.cell? (U b (off+k*8+7))=some (.bool p.1.far)/\W.cell? (U w.heap.size 0)=some (M r.1.area)/\W.cell? (U w.heap.size 1)=some (M r.1.kind)/\W.cell? (U w.heap.size 2)=some (M r.1.owner)/\W.cell? (U w.heap.size 3)=some (M r.1.key)/\W.cell? (U w.heap.size 4)=some (M r.1.seq)/\W.cell? (U w.heap.size 5)=some (.slice ra r.1.near.length rc)/\W.cell? (U w.heap.size 6)=some (M r.1.cost)/\W.cell? (U w.heap.size 7)=some (.bool r.1.far)) (first | go_keep | (refine ⟨?_,?_,?_,?_,?_,?_,?_,?_,?_,?_,?_,?_,?_,?_,?_,?_⟩ <;> (rw [hbc.cell (by assumption)];assumption))) (first | (go_at_call 94;refine (HK _).mono ?_;rintro e w1 ⟨rfl,hbc⟩))
    have B1:T_ w0 w1:=hnx.trans ((YAC _ _).drew.trans (hbc.mono hsz));have OW1:=hide (Zad OW ((YAC wr.heap.size wr).drew.trans hbc) (YA _));have HFT2:=hide (show l=(ps.take (k+1)).filter (fun p=>Zam p.1 r.1) by rw [(HL).out,HFT.out];simp);go_wp2;go_roundw
    case rel=>exact ⟨k+1,_,_,by omega,by go_num,rfl,HFT2,OW1,B1⟩
    case measure=>exact MS_
   ·go_wp2
    go_region_held3 (fun W=>W.cell? (U b (off+k*8))=some (M p.1.area)/\W.cell? (U b (off+k*8+1))=some (M p.1.kind)/\W.cell? (U b (off+k*8+2))=some (M p.1.owner)/\W.cell? (U b (off+k*8+3))=some (M p.1.key)/\W.cell? (U b (off+k*8+4))=some (M p.1.seq)/\W.cell? (U b (off+k*8+5))=some (.slice pa p.1.near.length pc)/\W.cell? (U b (off+k*8+6))=some (M p.1.cost)/\W.cell? (U b (off+k*8+7))=some (.bool p.1.far)/\W.cell? (U w.heap.size 0)=some (M r.1.area)/\W.cell? (U w.heap.size 1)=some (M r.1.kind)/\W.cell? (U w.heap.size 2)=some (M r.1.owner)/\W.cell? (U w.heap.size 3)=some (M r.1.key)/\W.cell? (U w.heap.size 4)=some (M r.1.seq)/\W.cell? (U w.heap.size 5)=some (.slice ra r.1.near.length rc)/\W.cell? (U w.heap.size 6)=some (M r.1.cost)/\W.cell? (U w.heap.size 7)=some (.bool r.1.far)) (first | go_keep | (refine ⟨?_,?_,?_,?_,?_,?_,?_,?_,?_,?_,?_,?_,?_,?_,?_,?_⟩ <;> (rw [hbc.cell (by assumption)];assumption))) (first | (go_at_call 94;refine (HK _).mono ?_;rintro e w1 ⟨rfl,hbc⟩))
    have B1:T_ w0 w1:=hnx.trans ((YAC _ _).drew.trans (hbc.mono hsz));have OW1:=hide (Zad OW ((YAC wr.heap.size wr).drew.trans hbc) (YA _));have b1s:=B1.size;have m0:=(hbc.cell (p:=(U b (off+k*8))) hb1).trans c0;have m1:=(hbc.cell (p:=(U b (off+k*8+1))) hb1).trans c1;have m2:=(hbc.cell (p:=(U b (off+k*8+2))) hb1).trans c2;have m3:=(hbc.cell (p:=(U b (off+k*8+3))) hb1).trans c3;have m4:=(hbc.cell (p:=(U b (off+k*8+4))) hb1).trans c4;have m5:=(hbc.cell (p:=(U b (off+k*8+5))) hb1).trans c5;have m6:=(hbc.cell (p:=(U b (off+k*8+6))) hb1).trans c6;have m7:=(hbc.cell (p:=(U b (off+k*8+7))) hb1).trans c7;have HFT2:=hide (show l++[(p.1,.slice pa p.1.near.length pc)]=(ps.take (k+1)).filter (fun p=>Zam p.1 r.1) by rw [(HL).out,HFT.out, <-HPE.out];simp)
    go_wp2_with (first
     | (at_builtin;refine ZaQ Zax (by omega) (by omega) _ rfl _ _ 29 rfl (w.heap.size+1) 39 Tryz.underlying29 (.agg (recC Zbf (.slice none 0 0))) rfl Tryz.infoRec _ (l) (p.1,.slice pa p.1.near.length pc) (Zb2 _ _ _ _) rfl (OW1.out.alloc _) (U w1.heap.size 0) 1 rfl (Zar (cs:=encP (p.1,.slice pa p.1.near.length pc))) (by have:=HQL.out;omega) (by simp;omega) ?_))
    intro v' w4 hown' hgrow;obtain⟨va,vc,rfl⟩:=Zac hown';have B4:T_ w0 w4:=(B1.alloc b1s _).grown hgrow (by simp;omega) (fun j hj=>by have:=(OW1.out.lt j hj).1;omega);have OW4:=hide hown';clear hown' hgrow;go_wp2;go_roundw
    case rel=>exact ⟨k+1,_,_,by omega,by go_num,rfl,HFT2,by simpa using OW4.out,B4⟩
    case measure=>exact MS_
  ·have hkn:k=ps.length:=by omega
   have htk:ps.take k=ps:=by rw [hkn,YAf]
   rw [htk] at HL;have OW:=hide hown;clear hown hkn htk;have hxx:=(hnx.block _ (Zab HX)).trans HX;have d0:=Zaa hxx 0;have d1:=Zaa hxx 1;have d2:=Zaa hxx 2;have d3:=Zaa hxx 3;have d4:=Zaa hxx 4;have d5:=Zaa hxx 5;have d6:=Zaa hxx 6;have d7:=Zaa hxx 7;simp at d0 d1 d2 d3 d4 d5 d6 d7;clear hxx
   go_wp2_with (first
    | (at_builtin;refine ZaQ Zax (by omega) (by omega) _ rfl _ _ 29 rfl (w.heap.size+1) 39 Tryz.underlying29 (.agg (recC Zbf (.slice none 0 0))) rfl Tryz.infoRec _ (l) (r.1,.slice ra r.1.near.length rc) (Zb2 _ _ _ _) rfl (OW.out.alloc _) (U wr.heap.size 0) 1 rfl (Zar (cs:=encP (r.1,.slice ra r.1.near.length rc))) (by have:=HQL.out;omega) (by simp;omega) ?_))
   intro v' w4 hown' hgrow;obtain⟨va,vc,rfl⟩:=Zac hown';have B2:=hide ((hnx.alloc hsz _).grown hgrow (by simp;omega) (fun j hj=>by have:=(OW.out.lt j hj).1;omega));have HRE:=hide (show r=(r.1,.slice ra r.1.near.length rc) from Prod.ext rfl HRN);have R2:=hide hown';clear hown' hgrow HQL d0 d1 d2 d3 d4 d5 d6 d7 OW hnx hsz BWR;go_wp2
   go_loopw [7,5] (fun i o wr=>∃ (k:Nat) (u:Value) (l:List RP),k<=ps.length/\i=M k/\o=u/\Hid (l=ps.filter (fun p=>Zam p.1 r.1)++[r]++(ps.take k).filter (fun p=>Zam r.1 p.1))/\wr.ownsRow (w.heap.size+1) 39 8 u l.length (flat encP l)/\T_ w0 wr) (fun i _ _=>ps.length-(intOf i).toNat)
   case atStart=>exact ⟨0,_,l++[(r.1,.slice ra r.1.near.length rc)],by omega,rfl,rfl,(hide (by rw [HL.out, <-HRE.out];simp)),by simpa using R2.out,B2.out⟩
   case round=>
    obtain⟨k,u,m,hk,rfl,rfl,HM,hown,hnx⟩:=hrel;obtain⟨ua,uc,rfl⟩:=Zac hown;have hsz:=hnx.size;have BWR:T_ w wr:=BX.trans (hnx.mono (by omega));have HQL:=hide (show m.length<=2097153 by rw [(HM).out];have h1:=List.length_filter_le (fun p:RP=>Zam p.1 r.1) ps;have h2:=List.length_filter_le (fun p:RP=>Zam r.1 p.1) (ps.take k);simp at h1 h2 |-;omega);by_cases hlt:k<ps.length
    ·obtain ⟨p,hp⟩:∃ p,ps[k]? = some p:=⟨ps[k],YAA hlt⟩;have hat:=HV.out.at;obtain⟨b,off,cap',hve,hbb,c0,c1,c2,c3,c4,c5,c6,c7,hnr⟩:=hat.cells k p hp;cases hve;obtain⟨pa,pc,hpn⟩:=ZaG.shape hnr;rw [hpn] at c5;replace c0:=(BWR.cell (YAB hbb hhi)).trans c0;replace c1:=(BWR.cell (YAB hbb hhi)).trans c1;replace c2:=(BWR.cell (YAB hbb hhi)).trans c2;replace c3:=(BWR.cell (YAB hbb hhi)).trans c3;replace c4:=(BWR.cell (YAB hbb hhi)).trans c4;replace c5:=(BWR.cell (YAB hbb hhi)).trans c5;replace c6:=(BWR.cell (YAB hbb hhi)).trans c6;replace c7:=(BWR.cell (YAB hbb hhi)).trans c7;have hxx:=(hnx.block _ (Zab HX)).trans HX;have d0:=Zaa hxx 0;have d1:=Zaa hxx 1;have d2:=Zaa hxx 2;have d3:=Zaa hxx 3;have d4:=Zaa hxx 4;have d5:=Zaa hxx 5;have d6:=Zaa hxx 6;have d7:=Zaa hxx 7;simp at d0 d1 d2 d3 d4 d5 d6 d7;have hb1:b<wr.heap.size:=by omega
     have hb2:w.heap.size<wr.heap.size:=by omega
     have hki:(0:Int)<=(k:Int):=by omega
     have hkj:(k:Int)<(ps.length:Int):=by omega
     have hq:=fun W=>Zfp r.2 p.2 r.1 p.1 W;unfold recC at hq;rw [hpn,HRN.out] at hq;have hpe:p=(p.1,.slice pa p.1.near.length pc):=Prod.ext rfl hpn;obtain⟨q,hqq⟩:∃ q,q=Zam r.1 p.1:=⟨_,rfl⟩;rw [<-hqq] at hq;have HK:=hide hq;have hft:=Zed (fun p=>Zam r.1 p.1) hp;rw [<-hqq] at hft;have HFT:=hide hft;have HPE:=hide hpe;have OW:=hide hown;clear hq hqq hp hat hxx hnr hpn hft hpe hown;cases q
     ·go_wp2
      go_region_held3 (fun W=>W.cell? (U b (off+k*8))=some (M p.1.area)/\W.cell? (U b (off+k*8+1))=some (M p.1.kind)/\W.cell? (U b (off+k*8+2))=some (M p.1.owner)/\W.cell? (U b (off+k*8+3))=some (M p.1.key)/\W.cell? (U b (off+k*8+4))=some (M p.1.seq)/\W.cell? (U b (off+k*8+5))=some (.slice pa p.1.near.length pc)/\W.cell? (U b (off+k*8+6))=some (M p.1.cost)/\W.cell? (U b (off+k*8+7))=some (.bool p.1.far)/\W.cell? (U w.heap.size 0)=some (M r.1.area)/\W.cell? (U w.heap.size 1)=some (M r.1.kind)/\W.cell? (U w.heap.size 2)=some (M r.1.owner)/\W.cell? (U w.heap.size 3)=some (M r.1.key)/\W.cell? (U w.heap.size 4)=some (M r.1.seq)/\W.cell? (U w.heap.size 5)=some (.slice ra r.1.near.length rc)/\W.cell? (U w.heap.size 6)=some (M r.1.cost)/\W.cell? (U w.heap.size 7)=some (.bool r.1.far)) (first | go_keep | (refine ⟨?_,?_,?_,?_,?_,?_,?_,?_,?_,?_,?_,?_,?_,?_,?_,?_⟩ <;> (rw [hbc.cell (by assumption)];assumption))) (first | (go_at_call 94;refine (HK _).mono ?_;rintro e w1 ⟨rfl,hbc⟩))
      have B1:T_ w0 w1:=hnx.trans ((YAC _ _).drew.trans (hbc.mono hsz));have OW1:=hide (Zad OW ((YAC wr.heap.size wr).drew.trans hbc) (YA _));have HFT2:=hide (show m=ps.filter (fun p=>Zam p.1 r.1)++[r]++(ps.take (k+1)).filter (fun p=>Zam r.1 p.1) by rw [(HM).out,HFT.out];simp);go_wp2;go_roundw
      case rel=>exact ⟨k+1,_,_,by omega,by go_num,rfl,HFT2,OW1,B1⟩
      case measure=>exact MS_
     ·go_wp2
      go_region_held3 (fun W=>W.cell? (U b (off+k*8))=some (M p.1.area)/\W.cell? (U b (off+k*8+1))=some (M p.1.kind)/\W.cell? (U b (off+k*8+2))=some (M p.1.owner)/\W.cell? (U b (off+k*8+3))=some (M p.1.key)/\W.cell? (U b (off+k*8+4))=some (M p.1.seq)/\W.cell? (U b (off+k*8+5))=some (.slice pa p.1.near.length pc)/\W.cell? (U b (off+k*8+6))=some (M p.1.cost)/\W.cell? (U b (off+k*8+7))=some (.bool p.1.far)/\W.cell? (U w.heap.size 0)=some (M r.1.area)/\W.cell? (U w.heap.size 1)=some (M r.1.kind)/\W.cell? (U w.heap.size 2)=some (M r.1.owner)/\W.cell? (U w.heap.size 3)=some (M r.1.key)/\W.cell? (U w.heap.size 4)=some (M r.1.seq)/\W.cell? (U w.heap.size 5)=some (.slice ra r.1.near.length rc)/\W.cell? (U w.heap.size 6)=some (M r.1.cost)/\W.cell? (U w.heap.size 7)=some (.bool r.1.far)) (first | go_keep | (refine ⟨?_,?_,?_,?_,?_,?_,?_,?_,?_,?_,?_,?_,?_,?_,?_,?_⟩ <;> (rw [hbc.cell (by assumption)];assumption))) (first | (go_at_call 94;refine (HK _).mono ?_;rintro e w1 ⟨rfl,hbc⟩))
      have B1:T_ w0 w1:=hnx.trans ((YAC _ _).drew.trans (hbc.mono hsz));have OW1:=hide (Zad OW ((YAC wr.heap.size wr).drew.trans hbc) (YA _));have b1s:=B1.size;have m0:=(hbc.cell (p:=(U b (off+k*8))) hb1).trans c0;have m1:=(hbc.cell (p:=(U b (off+k*8+1))) hb1).trans c1;have m2:=(hbc.cell (p:=(U b (off+k*8+2))) hb1).trans c2;have m3:=(hbc.cell (p:=(U b (off+k*8+3))) hb1).trans c3;have m4:=(hbc.cell (p:=(U b (off+k*8+4))) hb1).trans c4;have m5:=(hbc.cell (p:=(U b (off+k*8+5))) hb1).trans c5;have m6:=(hbc.cell (p:=(U b (off+k*8+6))) hb1).trans c6;have m7:=(hbc.cell (p:=(U b (off+k*8+7))) hb1).trans c7;have HFT2:=hide (show m++[(p.1,.slice pa p.1.near.length pc)]=ps.filter (fun p=>Zam p.1 r.1)++[r]++(ps.take (k+1)).filter (fun p=>Zam r.1 p.1) by rw [(HM).out,HFT.out, <-HPE.out];simp)
      go_wp2_with (first
       | (at_builtin;refine ZaQ Zax (by omega) (by omega) _ rfl _ _ 29 rfl (w.heap.size+1) 39 Tryz.underlying29 (.agg (recC Zbf (.slice none 0 0))) rfl Tryz.infoRec _ (m) (p.1,.slice pa p.1.near.length pc) (Zb2 _ _ _ _) rfl (OW1.out.alloc _) (U w1.heap.size 0) 1 rfl (Zar (cs:=encP (p.1,.slice pa p.1.near.length pc))) (by have:=HQL.out;omega) (by simp;omega) ?_))
      intro v' w4 hown' hgrow;obtain⟨va,vc,rfl⟩:=Zac hown';have B4:T_ w0 w4:=(B1.alloc b1s _).grown hgrow (by simp;omega) (fun j hj=>by have:=(OW1.out.lt j hj).1;omega);have OW4:=hide hown';clear hown' hgrow;go_wp2;go_roundw
      case rel=>exact ⟨k+1,_,_,by omega,by go_num,rfl,HFT2,by simpa using OW4.out,B4⟩
      case measure=>exact MS_
    ·have hkn:k=ps.length:=by omega
     have htk:ps.take k=ps:=by rw [hkn,YAf]
     rw [htk] at HM;have OW:=hide hown;clear hown hkn htk;go_wp2;go_ret;refine⟨_,rfl,⟨?_,fun j hj=>(OW.out.lt j hj).2,?_⟩,BWR,fun j hj=>by have:=(OW.out.lt j hj).1;omega⟩
     ·rw [<-HM.out];exact Zaf OW (Nat.zero_le _)
     intro q hq;have hmem:q∈ps\/q=r:=by
      rcases YAF.1 hq with h | h
      ·rcases YAF.1 h with h | h
       ·exact .inl ((YAY.1 h).1)
       ·exact .inr (by simpa using h)
      ·exact .inl ((YAY.1 h).1)
     have hno:ZaH w 0 hi q:=by
      rcases hmem with h | h
      ·exact HV.out.nears q h
      ·rw [h];exact HR
     exact (hno.keep (W':=wr) (fun j _ h2 _=>BWR.block j (by omega))).wide (YA _) (by omega)
theorem Zjt (v:Value)(ps:List RP)(hi:Nat)(r:RP)(w:World)(hv:RecsIn w hi v ps)(hhi:hi<=w.heap.size)(hn:tot ps<=1048576)(hr:ZaH w 0 hi r):
  Calls Tryz.prog 63 #[v,.agg (recC r.1 r.2)] w fun e w'=>∃ x,e=.returned x/\RecsIn w' w'.heap.size x (putL ps r)/\T_ w w':=by
 refine (Zrc v ps hi r w hv hhi hn hr).mono ?_;rintro e w' ⟨x,h1,h2,h3,_⟩;exact⟨x,h1,h2,h3⟩
theorem Zod (p l:Lk):ZjO p l=decide (ordL p l<0):=by
 simp only [ZjO,ordL,orN,cmpN];grind
theorem ZpQ (p l:Th):ZkJ p l=decide (ordT p l<0):=by
 simp only [ZkJ,ordT,orN,cmpN];grind
theorem Ziz (v:Value)(x:NetD)(w:World)(hl:x.ls.length<=1048576)(ht:x.ts.length<=1048576)(hv:Zgz w v x w.heap.size):
  Calls Tryz.prog 83 #[v] w fun e w'=>e=.returned (.bool (Zbh x))/\T_ w w':=by
 obtain⟨n,ls,ts⟩:=x;obtain⟨v1,v2,rfl,h1,h2⟩:=hv;simp only [] at h1 h2 hl ht |-
 obtain⟨a1,c1,rfl⟩:=h1.shape;obtain⟨a2,c2,rfl⟩:=h2.shape;obtain⟨q,hq⟩:∃ q,q=inB n 1 6:=⟨_,rfl⟩;have hin:=ZbS n 1 6;rw [<-hq] at hin;have HIN:=hide hin;have HQ:=hide hq;have H1:=hide h1;have H2:=hide h2;clear hin hq h1 h2;cases q
 ·have hno:Zbh ⟨n,ls,ts⟩=false:=by unfold Zbh;simp only [];rw [<-HQ.out];simp
  rw [hno];clear hno
  go_enter Tryz.func83,Tryz.ntmps83
  go_wp2_with fail
  refine (HIN _).mono ?_;rintro e w1 ⟨rfl,rfl⟩;go_wp2;go_ret;exact⟨rfl,(YAC _ _).alloc (YA _) _⟩
 by_cases h12:ls.length<=12
 case neg=>
  have hno:Zbh ⟨n,ls,ts⟩=false:=by unfold Zbh Zco;simp only [];rw [YAZ h12];simp
  rw [hno];have h12':(12:Int)<(ls.length:Int):=by omega
  clear hno
  go_enter Tryz.func83,Tryz.ntmps83
  go_wp2_with fail
  refine (HIN _).mono ?_;rintro e w1 ⟨rfl,rfl⟩;go_wp2;go_ret;exact⟨rfl,(YAC _ _).alloc (YA _) _⟩
 by_cases h4:ts.length<=4
 case neg=>
  have hno:Zbh ⟨n,ls,ts⟩=false:=by unfold Zbh ZbH;simp only [];rw [YAZ h4];simp
  rw [hno];have h4':(4:Int)<(ts.length:Int):=by omega
  clear hno
  go_enter Tryz.func83,Tryz.ntmps83
  go_wp2_with fail
  refine (HIN _).mono ?_;rintro e w1 ⟨rfl,rfl⟩;go_wp2;go_ret;exact⟨rfl,(YAC _ _).alloc (YA _) _⟩
 have h12':¬(12:Int)<(ls.length:Int):=by omega
 have h4':¬(4:Int)<(ts.length:Int):=by omega
 have hnet:Zbh ⟨n,ls,ts⟩=((ZbV (Za0 n) ls&&ascB ordL ls)&&(ZbV (Zd5 n) ts&&ascB ordT ts)):=by
  unfold Zbh Zco ZbH;simp only [];rw [<-HQ.out,YAc h12,YAc h4];simp
 have HNET:=hide hnet;clear hnet HQ h12 h4
 go_enter Tryz.func83,Tryz.ntmps83
 go_wp2_with fail
 refine (HIN _).mono ?_;rintro e w1 ⟨rfl,rfl⟩;go_wp2
 go_loopw [3] (fun i wr=>∃ k:Nat,k<=ls.length/\i=M k/\(∀ j,j<k->okAt (Za0 n) ls j=true)/\(∀ j,j<k->Zcm ordL ls j=true)/\T_ w wr/\wr.heap[w.heap.size]? = some (.cells #[M n,.slice a1 ls.length c1,.slice a2 ts.length c2] 27)) (fun i _=>ls.length-(intOf i).toNat)
 case atStart=>exact ⟨0,by omega,rfl,by omega,by omega,(YAC _ _).alloc (YA _) _,YAE w _⟩
 case round=>
  obtain⟨k,hk,rfl,hall,hasc,hnx,hx⟩:=hrel;have hxl:=Zab hx;have g0:=Zaa hx 0;have g1:=Zaa hx 1;have g2:=Zaa hx 2;simp at g0 g1 g2;have HALL:=hide hall;have HASC:=hide hasc;have HX:=hide hx;clear hall hasc hx;by_cases hlt:k<ls.length
  ·obtain ⟨l,hl⟩:∃ l,ls[k]? = some l:=⟨ls[k],YAA hlt⟩;obtain⟨b,off,cap',hve,hbb,s0,s1,s2,s3⟩:=H1.out.cells k l hl;cases hve;replace s0:=(hnx.cell hbb).trans s0;replace s1:=(hnx.cell hbb).trans s1;replace s2:=(hnx.cell hbb).trans s2;replace s3:=(hnx.cell hbb).trans s3;have hzr:=hnx.size;have hbr:b<wr.heap.size:=by omega
   have hki:(0:Int)<=(k:Int):=by omega
   have hkj:(k:Int)<(ls.length:Int):=by omega
   obtain⟨q1,hq1⟩:∃ q1,q1=Za0 n l:=⟨_,rfl⟩;have hok:=ZlU n l;rw [<-hq1] at hok;unfold lkV at hok;have HOK:=hide hok;have HAT1:=hide ((ZcE (ok:=Za0 n) hl).trans hq1.symm);have HL:=hide hl;clear hok hq1 hl;cases q1
   ·have hf:Zbh ⟨n,ls,ts⟩=false:=by rw [HNET.out];unfold ZbV;rw [ZaW hlt HAT1.out];rfl
    have HF:=hide hf;clear hf;go_wp2;refine Zah (S:=(fun W=>W.cell? (U w.heap.size 0)=some (M n)/\W.cell? (U w.heap.size 1)=some (.slice (some (U b off)) ls.length c1)/\W.cell? (U b (off+k*4))=some (M l.a)/\W.cell? (U b (off+k*4+1))=some (M l.b)/\W.cell? (U b (off+k*4+2))=some (M l.c)/\W.cell? (U b (off+k*4+3))=some (M l.r))) (by kernel_rfl) 28 rfl ⟨g0,g1,s0,s1,s2,s3⟩ (fun ops hops hHeld=>?_)
    iterate 7 (refine TK 28 ?_;try simp only [putS])
    refine TC 7 ?_;intro K hK;go_simp;refine (HOK _).mono ?_;rintro e w1 ⟨rfl,hbc⟩;refine hK _ _ ?_ (fun hHeld2=>?_)
    ·refine ⟨?_,?_,?_,?_,?_,?_⟩ <;> (rw [hbc.cell (by assumption)];assumption)
    clear hK K
    try simp only [putS]
    iterate 2 (refine TK 28 ?_;try simp only [putS])
    iterate 17 (refine TS 28 ?_;try simp only [putS])
    refine TK 28 ?_
    try simp only [putS]
    refine wpAnyH_done (by rw [hops.out];kernel_rfl) ?_ _;clear hops ops;go_wp2;go_ret;exact⟨Zai HF,hnx.drew.trans (hbc.mono hnx.size)⟩
   by_cases hk0:k=0
   ·have hk1:¬(0:Int)<(k:Int):=by omega
    have hat2:Zcm ordL ls k=true:=by rw [hk0];rfl
    have HAT2:=hide hat2;clear hat2 hk0;go_wp2;refine Zah (S:=(fun W=>W.cell? (U w.heap.size 0)=some (M n)/\W.cell? (U w.heap.size 1)=some (.slice (some (U b off)) ls.length c1)/\W.cell? (U b (off+k*4))=some (M l.a)/\W.cell? (U b (off+k*4+1))=some (M l.b)/\W.cell? (U b (off+k*4+2))=some (M l.c)/\W.cell? (U b (off+k*4+3))=some (M l.r))) (by kernel_rfl) 28 rfl ⟨g0,g1,s0,s1,s2,s3⟩ (fun ops hops hHeld=>?_)
    iterate 7 (refine TK 28 ?_;try simp only [putS])
    refine TC 7 ?_;intro K hK;go_simp;refine (HOK _).mono ?_;rintro e w1 ⟨rfl,hbc⟩;refine hK _ _ ?_ (fun hHeld2=>?_)
    ·refine ⟨?_,?_,?_,?_,?_,?_⟩ <;> (rw [hbc.cell (by assumption)];assumption)
    clear hK K
    try simp only [putS]
    iterate 3 (refine TK 28 ?_;try simp only [putS])
    refine TK 28 (v:=.bool false) ?_ (hy:=by intro W hW;(try dsimp only at hW);go_simp <;> (first | with_reducible rfl | (simp;omega) | omega))
    try simp only [putS]
    refine TK 28 ?_
    try simp only [putS]
    iterate 13 (refine TS 28 ?_;try simp only [putS])
    iterate 2 (refine TK 28 ?_;try simp only [putS])
    refine wpAnyH_done (by rw [hops.out];kernel_rfl) ?_ _;clear hops ops;have B1:T_ w w1:=hnx.drew.trans (hbc.mono hnx.size);have hx1:w1.heap[w.heap.size]? = some (.cells #[M n,.slice (some (U b off)) ls.length c1,.slice a2 ts.length c2] 27):=by rw [hbc.block _ hxl];exact HX
    have HX1:=hide hx1;clear hx1;go_wp2;exact⟨⟨k+1,by omega,by go_num,ZaT HALL HAT1,ZaT HASC HAT2,B1,HX1⟩,by simp [intOf];omega⟩
   ·obtain ⟨j,hj⟩:∃ j,k=j+1:=⟨k-1,by omega⟩;obtain⟨p,hp⟩:∃ p,ls[j]? = some p:=⟨ls[j],YAA (by omega)⟩;obtain⟨b',off',cap2,hve2,hbb2,t0,t1,t2,t3⟩:=H1.out.cells j p hp;cases hve2;replace t0:=(hnx.cell hbb).trans t0;replace t1:=(hnx.cell hbb).trans t1;replace t2:=(hnx.cell hbb).trans t2;replace t3:=(hnx.cell hbb).trans t3;obtain⟨q2,hq2⟩:∃ q2,q2=ZjO p l:=⟨_,rfl⟩;have hah:=ZnS p l;rw [<-hq2] at hah;unfold lkV at hah;have HAH:=hide hah;have hat2:Zcm ordL ls k=q2:=by rw [hj,hq2,Zod];exact Zb9 hp (by rw [<-hj];exact HL)
    have HAT2:=hide hat2;have hj1:(k:Int)-1=(j:Int):=by omega
    have hj2:(0:Int)<=(j:Int):=by omega
    have hj3:(j:Int)<(ls.length:Int):=by omega
    have hj4:(0:Int)<(k:Int):=by omega
    have hj5:IntKind.i64.wrap (j:Int)=(j:Int):=ZaN _ (by omega) (by omega);clear hah hq2 hp hat2 hj hk0 hbb2;go_wp2;refine Zah (S:=(fun W=>W.cell? (U w.heap.size 0)=some (M n)/\W.cell? (U w.heap.size 1)=some (.slice (some (U b off)) ls.length c1)/\W.cell? (U b (off+k*4))=some (M l.a)/\W.cell? (U b (off+k*4+1))=some (M l.b)/\W.cell? (U b (off+k*4+2))=some (M l.c)/\W.cell? (U b (off+k*4+3))=some (M l.r)/\W.cell? (U b (off+j*4))=some (M p.a)/\W.cell? (U b (off+j*4+1))=some (M p.b)/\W.cell? (U b (off+j*4+2))=some (M p.c)/\W.cell? (U b (off+j*4+3))=some (M p.r))) (by kernel_rfl) 28 rfl ⟨g0,g1,s0,s1,s2,s3,t0,t1,t2,t3⟩ (fun ops hops hHeld=>?_)
    iterate 7 (refine TK 28 ?_;try simp only [putS])
    refine TC 7 ?_;intro K hK;go_simp;refine (HOK _).mono ?_;rintro e w1 ⟨rfl,hbc⟩;refine hK _ _ ?_ (fun hHeld2=>?_)
    ·refine ⟨?_,?_,?_,?_,?_,?_,?_,?_,?_,?_⟩ <;> (rw [hbc.cell (by assumption)];assumption)
    clear hK K
    try simp only [putS]
    iterate 3 (refine TK 28 ?_;try simp only [putS])
    refine TK 28 (v:=.bool true) ?_ (hy:=by intro W hW;(try dsimp only at hW);go_simp <;> (first | with_reducible rfl | (simp;omega) | omega))
    try simp only [putS]
    iterate 12 (refine TK 28 ?_;try simp only [putS])
    refine TC 24 ?_;intro K hK;go_simp;refine (HAH _).mono ?_;rintro e w2 ⟨rfl,hbc2⟩;refine hK _ _ ?_ (fun hHeld3=>?_)
    ·refine ⟨?_,?_,?_,?_,?_,?_,?_,?_,?_,?_⟩ <;> (rw [hbc2.cell (YAB (by assumption) hbc.size),hbc.cell (by assumption)];assumption)
    clear hK K
    try simp only [putS]
    iterate 3 (refine TK 28 ?_;try simp only [putS])
    refine wpAnyH_done (by rw [hops.out];kernel_rfl) ?_ _;clear hops ops;have B1:T_ w w1:=hnx.drew.trans (hbc.mono hnx.size);have B2:T_ w w2:=B1.trans (hbc2.mono B1.size);have hx2:w2.heap[w.heap.size]? = some (.cells #[M n,.slice (some (U b off)) ls.length c1,.slice a2 ts.length c2] 27):=by rw [hbc2.block _ (YAB hxl hbc.size),hbc.block _ hxl];exact HX
    have HX2:=hide hx2;clear hx2;cases q2
    ·have hf:Zbh ⟨n,ls,ts⟩=false:=by rw [HNET.out];unfold ascB;rw [ZaW hlt HAT2.out];simp
     have HF:=hide hf;clear hf;go_wp2;go_ret;exact⟨Zai HF,B2⟩
    ·go_wp2;exact⟨⟨k+1,by omega,by go_num,ZaT HALL HAT1,ZaT HASC HAT2,B2,HX2⟩,by simp [intOf];omega⟩
  ·have hnet2:Zbh ⟨n,ls,ts⟩=(ZbV (Zd5 n) ts&&ascB ordT ts):=by
    have e1:ZbV (Za0 n) ls=true:=Zbi fun i hi=>HALL i (by omega);have e2:ascB ordL ls=true:=Zbi fun i hi=>HASC i (by omega);rw [HNET.out,e1,e2];simp
   have HNET2:=hide hnet2;clear hnet2 HNET HALL HASC;obtain⟨wo,rfl⟩:∃ wo:World,wo=wr:=⟨_,rfl⟩;go_wp2;clear hlt hk
   go_loopw [4] (fun i wr=>∃ k:Nat,k<=ts.length/\i=M k/\(∀ j,j<k->okAt (Zd5 n) ts j=true)/\(∀ j,j<k->Zcm ordT ts j=true)/\T_ w wr/\wr.heap[w.heap.size]? = some (.cells #[M n,.slice a1 ls.length c1,.slice a2 ts.length c2] 27)) (fun i _=>ts.length-(intOf i).toNat)
   case atStart=>exact ⟨0,by omega,rfl,by omega,by omega,hnx,HX⟩
   case round=>
    clear hnx HX g0 g1 g2 hxl;obtain⟨k,hk,rfl,hall,hasc,hnx,hx⟩:=hrel;have hxl:=Zab hx;have g0:=Zaa hx 0;have g2:=Zaa hx 2;simp at g0 g2;have HALL:=hide hall;have HASC:=hide hasc;have HX:=hide hx;clear hall hasc hx;by_cases hlt:k<ts.length
    ·obtain ⟨l,hl⟩:∃ l,ts[k]? = some l:=⟨ts[k],YAA hlt⟩;obtain⟨b,off,cap',hve,hbb,s0,s1,s2,s3⟩:=H2.out.cells k l hl;cases hve;replace s0:=(hnx.cell hbb).trans s0;replace s1:=(hnx.cell hbb).trans s1;replace s2:=(hnx.cell hbb).trans s2;replace s3:=(hnx.cell hbb).trans s3;have hzr:=hnx.size;have hbr:b<wr.heap.size:=by omega
     have hki:(0:Int)<=(k:Int):=by omega
     have hkj:(k:Int)<(ts.length:Int):=by omega
     obtain⟨qk,hqk⟩:∃ q,q=inB l.k 1 9:=⟨_,rfl⟩;obtain⟨qo,hqo⟩:∃ q,q=inB l.o 1 n:=⟨_,rfl⟩;obtain⟨qc,hqc⟩:∃ q,q=inB l.c 1 1000:=⟨_,rfl⟩;have hok:Zd5 n l=(qk&&qo&&qc):=by unfold Zd5;rw [hqk,hqo,hqc]
     have HIK:=hide (ZbS l.k 1 9);have HIO:=hide (ZbS l.o 1 n);have HIC:=hide (ZbS l.c 1 1000);rw [<-hqk] at HIK;rw [<-hqo] at HIO;rw [<-hqc] at HIC;have HAT1:=hide ((ZcE (ok:=Zd5 n) hl).trans hok);have HL:=hide hl;clear hqk hqo hqc hok hl;obtain⟨wq,hwq⟩:∃ wq:World,wq=wr.alloc (.cells #[M l.o,M l.k,M l.c,.bool l.f] 119):=⟨_,rfl⟩;have BW:T_ w wq:=by rw [hwq];exact hnx.alloc hnx.size _
     have BR:T_ wr wq:=by rw [hwq];exact (YAC _ _).alloc (YA _) _
     have hb0:wq.heap[wr.heap.size]? = some (.cells #[M l.o,M l.k,M l.c,.bool l.f] 119):=by rw [hwq];exact YAE wr _
     have hx9:wq.heap[w.heap.size]? = some (.cells #[M n,.slice a1 ls.length c1,.slice (some (U b off)) ts.length c2] 27):=by rw [hwq,YAL _ _ _ hxl];exact HX
     go_wp2;rw [<-hwq];have g0:=Zaa hx9 0;have g2:=Zaa hx9 2;have e0:=Zaa hb0 0;have e1:=Zaa hb0 1;have e2:=Zaa hb0 2;have e3:=Zaa hb0 3;have hxq:=Zab hx9;have hzq:=Zab hb0;have hbq:b<wq.heap.size:=by omega
     simp at g0 g2 e0 e1 e2 e3;have HX9:=hide hx9;obtain⟨z,hz⟩:∃ z,z=wr.heap.size:=⟨_,rfl⟩;rw [<-hz] at e0 e1 e2 e3 hzq |-;have HBR:=hide BR;clear hb0 hx9 hwq hz BR s0 s1 s2 s3;cases qo
     ·have hf:Zbh ⟨n,ls,ts⟩=false:=by rw [HNET2.out];unfold ZbV;rw [ZaW hlt (HAT1.out.trans (by simp))];rfl
      have HF:=hide hf;clear hf;refine Zah (S:=(fun W=>W.cell? (U w.heap.size 0)=some (M n)/\W.cell? (U w.heap.size 2)=some (.slice (some (U b off)) ts.length c2)/\W.cell? (U z 0)=some (M l.o)/\W.cell? (U z 1)=some (M l.k)/\W.cell? (U z 2)=some (M l.c)/\W.cell? (U z 3)=some (.bool l.f))) (by kernel_rfl) 33 rfl ⟨g0,g2,e0,e1,e2,e3⟩ (fun ops hops hHeld=>?_)
      iterate 4 (refine TK 33 ?_;try simp only [putS])
      refine TC 4 ?_;intro K hK;go_simp;refine (HIO _).mono ?_;rintro e w1 ⟨rfl,rfl⟩;refine hK _ _ hHeld (fun _=>?_);clear hK K
      try simp only [putS]
      iterate 2 (refine TK 33 ?_;try simp only [putS])
      iterate 4 (refine TS 33 ?_;try simp only [putS])
      iterate 2 (refine TK 33 ?_;try simp only [putS])
      iterate 4 (refine TS 33 ?_;try simp only [putS])
      iterate 2 (refine TK 33 ?_;try simp only [putS])
      iterate 13 (refine TS 33 ?_;try simp only [putS])
      refine TK 33 ?_
      try simp only [putS]
      refine wpAnyH_done (by rw [hops.out];kernel_rfl) ?_ _;clear hops ops;go_wp2;go_ret;exact⟨Zai HF,BW.drew⟩
     cases qk
     ·have hf:Zbh ⟨n,ls,ts⟩=false:=by rw [HNET2.out];unfold ZbV;rw [ZaW hlt (HAT1.out.trans (by simp))];rfl
      have HF:=hide hf;clear hf;refine Zah (S:=(fun W=>W.cell? (U w.heap.size 0)=some (M n)/\W.cell? (U w.heap.size 2)=some (.slice (some (U b off)) ts.length c2)/\W.cell? (U z 0)=some (M l.o)/\W.cell? (U z 1)=some (M l.k)/\W.cell? (U z 2)=some (M l.c)/\W.cell? (U z 3)=some (.bool l.f))) (by kernel_rfl) 33 rfl ⟨g0,g2,e0,e1,e2,e3⟩ (fun ops hops hHeld=>?_)
      iterate 4 (refine TK 33 ?_;try simp only [putS])
      refine TC 4 ?_;intro K hK;go_simp;refine (HIO _).mono ?_;rintro e w1 ⟨rfl,rfl⟩;refine hK _ _ hHeld (fun _=>?_);clear hK K
      try simp only [putS]
      iterate 4 (refine TK 33 ?_;try simp only [putS])
      refine TC 9 ?_;intro K hK;go_simp;refine (HIK _).mono ?_;rintro e w1 ⟨rfl,rfl⟩;refine hK _ _ hHeld (fun _=>?_);clear hK K
      try simp only [putS]
      iterate 3 (refine TK 33 ?_;try simp only [putS])
      iterate 4 (refine TS 33 ?_;try simp only [putS])
      iterate 2 (refine TK 33 ?_;try simp only [putS])
      iterate 13 (refine TS 33 ?_;try simp only [putS])
      refine TK 33 ?_
      try simp only [putS]
      refine wpAnyH_done (by rw [hops.out];kernel_rfl) ?_ _;clear hops ops;go_wp2;go_ret;exact⟨Zai HF,BW.drew⟩
     cases qc
     ·have hf:Zbh ⟨n,ls,ts⟩=false:=by rw [HNET2.out];unfold ZbV;rw [ZaW hlt (HAT1.out.trans (by simp))];rfl
      have HF:=hide hf;clear hf;refine Zah (S:=(fun W=>W.cell? (U w.heap.size 0)=some (M n)/\W.cell? (U w.heap.size 2)=some (.slice (some (U b off)) ts.length c2)/\W.cell? (U z 0)=some (M l.o)/\W.cell? (U z 1)=some (M l.k)/\W.cell? (U z 2)=some (M l.c)/\W.cell? (U z 3)=some (.bool l.f))) (by kernel_rfl) 33 rfl ⟨g0,g2,e0,e1,e2,e3⟩ (fun ops hops hHeld=>?_)
      iterate 4 (refine TK 33 ?_;try simp only [putS])
      refine TC 4 ?_;intro K hK;go_simp;refine (HIO _).mono ?_;rintro e w1 ⟨rfl,rfl⟩;refine hK _ _ hHeld (fun _=>?_);clear hK K
      try simp only [putS]
      iterate 4 (refine TK 33 ?_;try simp only [putS])
      refine TC 9 ?_;intro K hK;go_simp;refine (HIK _).mono ?_;rintro e w1 ⟨rfl,rfl⟩;refine hK _ _ hHeld (fun _=>?_);clear hK K
      try simp only [putS]
      iterate 5 (refine TK 33 ?_;try simp only [putS])
      refine TC 15 ?_;intro K hK;go_simp;refine (HIC _).mono ?_;rintro e w1 ⟨rfl,rfl⟩;refine hK _ _ hHeld (fun _=>?_);clear hK K
      try simp only [putS]
      iterate 3 (refine TK 33 ?_;try simp only [putS])
      iterate 13 (refine TS 33 ?_;try simp only [putS])
      refine TK 33 ?_
      try simp only [putS]
      refine wpAnyH_done (by rw [hops.out];kernel_rfl) ?_ _;clear hops ops;go_wp2;go_ret;exact⟨Zai HF,BW.drew⟩
     by_cases hk0:k=0
     ·have hk1:¬(0:Int)<(k:Int):=by omega
      have hat2:Zcm ordT ts k=true:=by rw [hk0];rfl
      have HAT2:=hide hat2;clear hat2 hk0;refine Zah (S:=(fun W=>W.cell? (U w.heap.size 0)=some (M n)/\W.cell? (U w.heap.size 2)=some (.slice (some (U b off)) ts.length c2)/\W.cell? (U z 0)=some (M l.o)/\W.cell? (U z 1)=some (M l.k)/\W.cell? (U z 2)=some (M l.c)/\W.cell? (U z 3)=some (.bool l.f))) (by kernel_rfl) 33 rfl ⟨g0,g2,e0,e1,e2,e3⟩ (fun ops hops hHeld=>?_)
      iterate 4 (refine TK 33 ?_;try simp only [putS])
      refine TC 4 ?_;intro K hK;go_simp;refine (HIO _).mono ?_;rintro e w1 ⟨rfl,rfl⟩;refine hK _ _ hHeld (fun _=>?_);clear hK K
      try simp only [putS]
      iterate 4 (refine TK 33 ?_;try simp only [putS])
      refine TC 9 ?_;intro K hK;go_simp;refine (HIK _).mono ?_;rintro e w1 ⟨rfl,rfl⟩;refine hK _ _ hHeld (fun _=>?_);clear hK K
      try simp only [putS]
      iterate 5 (refine TK 33 ?_;try simp only [putS])
      refine TC 15 ?_;intro K hK;go_simp;refine (HIC _).mono ?_;rintro e w1 ⟨rfl,rfl⟩;refine hK _ _ hHeld (fun _=>?_);clear hK K
      try simp only [putS]
      iterate 4 (refine TK 33 ?_;try simp only [putS])
      refine TK 33 (v:=.bool false) ?_ (hy:=by intro W hW;(try dsimp only at hW);go_simp <;> (first | with_reducible rfl | (simp;omega) | omega))
      try simp only [putS]
      refine TK 33 ?_
      try simp only [putS]
      iterate 9 (refine TS 33 ?_;try simp only [putS])
      iterate 2 (refine TK 33 ?_;try simp only [putS])
      refine wpAnyH_done (by rw [hops.out];kernel_rfl) ?_ _;clear hops ops;go_wp2;exact⟨⟨k+1,by omega,by go_num,ZaT HALL HAT1,ZaT HASC HAT2,BW.drew,HX9⟩,by simp [intOf];omega⟩
     ·obtain ⟨j,hj⟩:∃ j,k=j+1:=⟨k-1,by omega⟩;obtain⟨p,hp⟩:∃ p,ts[j]? = some p:=⟨ts[j],YAA (by omega)⟩;obtain⟨b',off',cap2,hve2,hbb2,t0,t1,t2,t3⟩:=H2.out.cells j p hp;cases hve2;replace t0:=(BW.cell hbb).trans t0;replace t1:=(BW.cell hbb).trans t1;replace t2:=(BW.cell hbb).trans t2;replace t3:=(BW.cell hbb).trans t3;obtain⟨q2,hq2⟩:∃ q2,q2=ZkJ p l:=⟨_,rfl⟩;have hah:=Zn0 p l;rw [<-hq2] at hah;unfold thV at hah;have HAH:=hide hah;have hat2:Zcm ordT ts k=q2:=by rw [hj,hq2,ZpQ];exact Zb9 hp (by rw [<-hj];exact HL)
      have HAT2:=hide hat2;have hj1:(k:Int)-1=(j:Int):=by omega
      have hj2:(0:Int)<=(j:Int):=by omega
      have hj3:(j:Int)<(ts.length:Int):=by omega
      have hj4:(0:Int)<(k:Int):=by omega
      have hj5:IntKind.i64.wrap (j:Int)=(j:Int):=ZaN _ (by omega) (by omega);clear hah hq2 hp hat2 hj hk0 hbb2;refine Zah (S:=(fun W=>W.cell? (U w.heap.size 0)=some (M n)/\W.cell? (U w.heap.size 2)=some (.slice (some (U b off)) ts.length c2)/\W.cell? (U z 0)=some (M l.o)/\W.cell? (U z 1)=some (M l.k)/\W.cell? (U z 2)=some (M l.c)/\W.cell? (U z 3)=some (.bool l.f)/\W.cell? (U b (off+j*4))=some (M p.o)/\W.cell? (U b (off+j*4+1))=some (M p.k)/\W.cell? (U b (off+j*4+2))=some (M p.c)/\W.cell? (U b (off+j*4+3))=some (.bool p.f))) (by kernel_rfl) 33 rfl ⟨g0,g2,e0,e1,e2,e3,t0,t1,t2,t3⟩ (fun ops hops hHeld=>?_)
      iterate 4 (refine TK 33 ?_;try simp only [putS])
      refine TC 4 ?_;intro K hK;go_simp;refine (HIO _).mono ?_;rintro e w1 ⟨rfl,rfl⟩;refine hK _ _ hHeld (fun _=>?_);clear hK K
      try simp only [putS]
      iterate 4 (refine TK 33 ?_;try simp only [putS])
      refine TC 9 ?_;intro K hK;go_simp;refine (HIK _).mono ?_;rintro e w1 ⟨rfl,rfl⟩;refine hK _ _ hHeld (fun _=>?_);clear hK K
      try simp only [putS]
      iterate 5 (refine TK 33 ?_;try simp only [putS])
      refine TC 15 ?_;intro K hK;go_simp;refine (HIC _).mono ?_;rintro e w1 ⟨rfl,rfl⟩;refine hK _ _ hHeld (fun _=>?_);clear hK K
      try simp only [putS]
      iterate 4 (refine TK 33 ?_;try simp only [putS])
      refine TK 33 (v:=.bool true) ?_ (hy:=by intro W hW;(try dsimp only at hW);go_simp <;> (first | with_reducible rfl | (simp;omega) | omega))
      try simp only [putS]
      iterate 8 (refine TK 33 ?_;try simp only [putS])
      refine TC 29 ?_;intro K hK;go_simp;refine (HAH _).mono ?_;rintro e w2 ⟨rfl,hbc2⟩;refine hK _ _ ?_ (fun hHeld3=>?_)
      ·refine ⟨?_,?_,?_,?_,?_,?_,?_,?_,?_,?_⟩ <;> (rw [hbc2.cell (by assumption)];assumption)
      clear hK K
      try simp only [putS]
      iterate 3 (refine TK 33 ?_;try simp only [putS])
      refine wpAnyH_done (by rw [hops.out];kernel_rfl) ?_ _;clear hops ops;have B2:T_ w w2:=BW.drew.trans (hbc2.mono BW.size);have hx2:w2.heap[w.heap.size]? = some (.cells #[M n,.slice a1 ls.length c1,.slice (some (U b off)) ts.length c2] 27):=by rw [hbc2.block _ hxq];exact HX9
      have HX2:=hide hx2;clear hx2;cases q2
      ·have hf:Zbh ⟨n,ls,ts⟩=false:=by rw [HNET2.out];unfold ascB;rw [ZaW hlt HAT2.out];simp
       have HF:=hide hf;clear hf;go_wp2;go_ret;exact⟨Zai HF,B2⟩
      ·go_wp2;exact⟨⟨k+1,by omega,by go_num,ZaT HALL HAT1,ZaT HASC HAT2,B2,HX2⟩,by simp [intOf];omega⟩
    ·have hfin:Zbh ⟨n,ls,ts⟩=true:=by
      have e1:ZbV (Zd5 n) ts=true:=Zbi fun i hi=>HALL i (by omega);have e2:ascB ordT ts=true:=Zbi fun i hi=>HASC i (by omega);rw [HNET2.out,e1,e2];rfl
     have HFIN:=hide hfin;clear hfin;go_wp2;go_ret;exact⟨Zai HFIN,hnx⟩
def ZaK:List Int->List (Int × Int)
 | a::b::l=>(a,b)::ZaK l
 | _=>[]
theorem ZfU :∀ l:List Int,(ZaK l).length=l.length / 2
 | []=>rfl
 | [_]=>by simp [ZaK]
 | a::b::l=>by
  simp only [ZaK,YAm,ZfU l];omega
theorem ZmK :∀ (l:List Int)(i:Nat)(a b:Int),l[2*i]? = some a->l[2*i+1]? = some b->(ZaK l)[i]? = some (a,b)
 | [],_,_,_,h,_=>by simp at h
 | [_],0,_,_,_,h=>by simp at h
 | [_],i+1,_,_,h,_=>by simp at h
 | x::y::l,0,a,b,h1,h2=>by
  simp at h1 h2;simp [ZaK,h1,h2]
 | x::y::l,i+1,a,b,h1,h2=>by
  have e1:2*(i+1)=2*i+1+1:=by omega
  rw [e1] at h1 h2;simp only [YAK] at h1 h2;simp only [ZaK,YAK];exact ZmK l i a b h1 h2
theorem ZnJ (l:List Int)(i:Nat)(a b:Int)(h1:l[2*i]? = some a)(h2:l[2*i+1]? = some b):(ZaK l).take (i+1)=(ZaK l).take i++[(a,b)]:=by
 have h:=ZmK l i a b h1 h2;obtain⟨hi,e⟩:=YAD.1 h;rw [YAI hi,e]
theorem Zot {ls:List Lk}{f t r:Int}(h:ZcR ls f t r≠0):∃ l∈ls,ZbJ f t r l=true:=by
 unfold ZcR at h;cases e:ls.find? (ZbJ f t r) with
 | none=>rw [e] at h;simp at h
 | some l=>exact ⟨l,List.mem_of_find?_eq_some e,List.find?_some e⟩
theorem SelfIn.net {v1 v2 v3 v4:Value}{x:SelfD}{ps:List RP}{B:Nat}(h:SelfIn W v1 v2 v3 v4 x ps B):Zgz W (.agg #[M x.net.n,v1,v2]) x.net B:=⟨v1,v2,rfl,h.links,h.things⟩
theorem Tryz.infoPtr :(Tryz.prog.info? 272).map (fun i=>(i.zero,i.size,i.bytes))=some (some (.pointer none),1,8):=by kernel_rfl
structure FK (W W':World) (lo z:Nat):Prop where
 os:W'.os=W.os
 tape:W'.tape=W.tape
 output:W'.output=W.output
 size:W.heap.size<=W'.heap.size
 low:∀ k,k<lo->W'.heap[k]? = W.heap[k]?
 typed:∀ (k:Nat) (cs:Array Value) (t:TypeId) (fr:Nat × Nat),W.heap[k]? = some (.cells cs t fr)->t≠272->k≠z->W'.heap[k]? = W.heap[k]?
theorem FK.trans {W1 W2:World}(a:FK W W1 lo z)(b:FK W1 W2 lo z):FK W W2 lo z:=
 ⟨b.os.trans a.os,b.tape.trans a.tape,b.output.trans a.output,YAG a.size b.size,fun k hk=>(b.low k hk).trans (a.low k hk),fun k cs t fr h ht hz=>(b.typed k cs t fr ((a.typed k cs t fr h ht hz).trans h) ht hz).trans (a.typed k cs t fr h ht hz)⟩
theorem FK.of_below (h:T_ W W')(hlo:lo<=W.heap.size):FK W W' lo z:=⟨h.os,h.tape,h.output,h.size,fun k hk=>h.block k (by omega),fun k _ _ _ hk _ _=>h.block k (Zab hk)⟩
theorem FK.of_grown {xs:List Value}(hr:W.ownsRow lo 272 1 u n xs)(h:W.grownBy W' u.ownBlock)(hlo:lo<=W.heap.size):FK W W' lo z:=
 ⟨h.os,h.tape,h.output,h.size,fun k hk=>h.block k (by omega) (fun e=>by have:=(hr.lt k e.symm).1;omega),fun k _ _ _ hk ht _=>h.block k (Zab hk) (Zaq hr hk (fun e=>ht e.symm))⟩
theorem FK.of_set {j:Nat}(u:Value)(hz:lo<=z):FK W (W.setCell (U z j) u) lo z:=
 ⟨rfl,rfl,rfl,by simp,fun k hk=>YAU W (U z j) k _ (by show k≠z;omega),fun k _ _ _ _ _ hk=>YAU W (U z j) k _ hk⟩
theorem FK.below (h:FK W W' lo z):Below lo W W':=⟨h.os,h.tape,h.output,h.size,h.low⟩
theorem Zps (q:Nat->Nat)(n k:Nat):ptrs (fun x=>if x=n then k else q x) (n+1)=ptrs q n++[ptrV k]:=by
 unfold ptrs;rw [List.range_succ,YAh];congr 1
 ·apply List.map_congr_left;intro i hi;have hi2:=List.mem_range.1 hi;show ptrV (if i=n then k else q i)=ptrV (q i);rw [if_neg (by omega)]
 ·simp
theorem Zq7 {g cap:Nat}{e:TypeId}{xs:List Value} (h:W.ownsRow lo e 1 (.slice (some (U g 0)) n cap) n xs) (hk:k<=n):W.ownsRow lo e 1 (.slice (some (U g 0)) k cap) k (xs.take k):=by
 rcases h.2 with ⟨e1,_⟩ | ⟨g',cap',cur,hv,hg,hh,hnc,hcm,hcs,htk⟩
 ·cases e1
 ·cases hv;have hl:=h.1;refine⟨by rw [YAS];omega,.inr ⟨g,cap,cur,rfl,hg,hh,by omega,hcm,hcs,?_⟩⟩;rw [<-htk,List.take_take];congr 1;omega
theorem Zpt (q:Nat->Nat)(h:k<=n):(ptrs q n).take k=ptrs q k:=by
 unfold ptrs;rw [<-List.map_take,List.take_range,YAR h]
theorem Zf2 {w:World}{o:Oper}{a:Act}{K:Act->World->Prop}{Q:Exit->Act->World->Prop}(s x:Operand) (ho:o.op=.call { callee:=.builtin .append,args:=#[s,x],argTypes:=#[275,275] }) (q:Nat->Nat) (k n:Nat) (hs:a.eval s=u) (hown:w.ownsRow lo 272 1 u n (ptrs q n))
  {g:Nat} (hx:a.eval x=.slice (some (U g 0)) 1 1) (hnew:w.cell? (U g 0)=some (ptrV k)) (hn:n<=1000000) (hlo:lo<=w.heap.size)
  (h:∀ v' w',w'.ownsRow lo 272 1 v' (n+1) (ptrs (fun x=>if x=n then k else q x) (n+1))->w.grownBy w' u.ownBlock->K (a.put o.dst v') w'):o.wp Tryz.prog a w K Q:=by
 obtain⟨i0,hi,hz0,hz1,hz2⟩:=info_parts Tryz.infoPtr;refine wp_append_own w s x 275 ho lo 272 i0 (.pointer none) 1 8 ZgO hi hz0 hz1 hz2 rfl (by omega) u n (ptrs q n) hs hown (U g 0) 1 1 [ptrV k] hx rfl ?_ ?_ (by unfold maxLen;omega) (by omega) hlo ?_
 ·intro j u hj
  match j,hj with
  | 0,hj=>simp at hj;subst hj;exact hnew
 ·intro u hu;simp at hu;subst hu;rfl
 ·intro v' w' h1 h2 _;rw [<-Zps] at h1;exact h v' w' h1 h2
theorem Zm2 (v:Value)(w:World):(Instr.typeAssert (.iface 272 v) 20 272 false).run Tryz.prog w=.ok v w:=by kernel_rfl
theorem Zpu (W:World)(lo z n:Nat)(C:Array Value)(u:Value)(q:Nat->Nat)(wd:Nat->WayD)(wv:Nat->Value)(k:Nat)(h:HB W lo z C u n q wd wv)(hlo:lo<=W.heap.size)(hn:n<=1000)(hC:C.size=8)(hz:lo<=z)
  (hk:W.heap[k]? = some (.cells (wayC (wd k) (wv k)) 193)) (hks:∃ a l c,wv k=.slice a l c):
  Calls Tryz.prog 336 #[.pointer (some (U z 7)),.iface 272 (.pointer (some (U k 0)))] W fun e W'=>∃ u',e=.returned (.tuple #[])/\HB W' lo z (C.setIfInBounds 7 u') u' (n+1) (fun x=>if x=n then k else q x) wd wv/\FK W W' lo z:=by
 have cz:=h.cell;have fz:=Zae h.box;obtain⟨a1,c1,rfl⟩:=Zac h.hq.row;have FIN:∀ (W3:World) (u':Value) (W1:World),(∀ j,j<W.heap.size->W1.heap[j]? = W.heap[j]?)->W.heap.size<=W1.heap.size->W1.os=W.os->W1.tape=W.tape->W1.output=W.output->W3.ownsRow lo 272 1 u' (n+1) (ptrs (fun x=>if x=n then k else q x) (n+1))->W1.grownBy W3 (Value.slice a1 n c1).ownBlock ->
   W3.cell? (U z 7)=some (.slice a1 n c1)/\(∀ j,W3.frozen? (U z j)=false)/\HB (W3.setCell (U z 7) u') lo z (C.setIfInBounds 7 u') u' (n+1) (fun x=>if x=n then k else q x) wd wv/\FK W (W3.setCell (U z 7) u') lo z:=by
  intro W3 u' W1 hW1 hs1 e1 e2 e3 ho3 hg3;have keep:∀ j,j<W.heap.size->some j≠(Value.slice a1 n c1).ownBlock->W3.heap[j]? = W.heap[j]? := fun j hj hne=>(hg3.block j (by omega) hne).trans (hW1 j hj);have hb3:W3.heap[z]? = some (.cells C 277):=(keep z (Zab h.box) (Zaq h.hq.row h.box (by decide))).trans h.box;have kway:∀ (j:Nat) (x:Array Value),W.heap[j]? = some (.cells x 193)->(W3.setCell (U z 7) u').heap[j]? = some (.cells x 193):=by
   intro j x hj;rw [YAU W3 (U z 7) j _ (by
    intro e;have e':j=z:=e;rw [e',h.box] at hj;simp at hj)]
   exact (keep j (Zab hj) (Zaq h.hq.row hj (by decide))).trans hj
  refine⟨(Zaa hb3 7).trans h.c7,Zae hb3,⟨YAd _ _ 7 _ _ _ hb3,by simp [hC],?_,fun i hi=>?_,fun i hi=>?_⟩,?_⟩
  ·exact Zal ho3 (fun j hj=>YAU W3 (U z 7) j _ (fun e=>by
    have e':j=z:=e;exact Zaq ho3 hb3 (by decide) (by rw [hj,e'])))
  ·show (W3.setCell (U z 7) u').heap[if i=n then k else q i]? = some (.cells (wayC (wd (if i=n then k else q i)) (wv (if i=n then k else q i))) 193);by_cases e:i=n
   ·rw [if_pos e];exact kway k _ hk
   ·rw [if_neg e];exact kway _ _ (h.hq.way i (by omega))
  ·show ∃ a l c,wv (if i=n then k else q i)=.slice a l c;by_cases e:i=n
   ·rw [if_pos e];exact hks
   ·rw [if_neg e];exact h.hq.sl i (by omega)
  ·refine FK.trans ?_ (FK.of_set u' hz);exact⟨hg3.os.trans e1,hg3.tape.trans e2,hg3.output.trans e3,by have:=hg3.size;omega,fun j hj=>keep j (by omega) (fun e=>by have:=(h.hq.row.lt j e.symm).1;omega),fun j _ _ _ hj ht _=>keep j (Zab hj) (Zaq h.hq.row hj (fun e=>ht e.symm))⟩
 have HFIN:=hide FIN;have HH:=hide h;have lz:=Zab h.box;clear FIN h fz hk
 go_enter Tryz.func336,Tryz.ntmps336
 go_wp2;refine Zah (S:=fun _=>True) (by kernel_rfl) 10 rfl trivial ?_;intro ops hops _;have czd:W.drew.cell? (U z 7)=some (.slice a1 n c1):=cz;show wpAnyH Tryz.prog .any ops _ (fun _=>True) 10 #[false,false,false,false,false,false,false,false,false,false] _ W.drew
 iterate 3
  refine ZhJ 10 ?_ ?_ ?_ (by rw [hops.out];kernel_rfl) ?_ ?_ trivial ?_
  rotate_left 2
  ·rw [hops.out];simp only [getS,Nat.reduceSub,Nat.reduceAdd];rfl
  ·intro W _;have hAs:=fun v=>Zm2 v W;go_simp <;> with_reducible rfl
  ·exact fun _ _ _=>id
  try simp only [putS]
 refine ZbA 4 ?_ ?_ ?_ (by rw [hops.out];kernel_rfl) ?_ ?_ trivial ?_
 rotate_left 2
 ·rw [hops.out];simp only [getS];rfl
 ·intro W _;have hAs:=fun v=>Zm2 v W;go_simp <;> with_reducible rfl
 ·exact fun _ _ _=>id
 try simp only [putS]
 refine ZbA 5 ?_ ?_ ?_ (by rw [hops.out];kernel_rfl) ?_ ?_ trivial ?_
 rotate_left 2
 ·rw [hops.out];simp only [getS];rfl
 ·intro W _;have hAs:=fun v=>Zm2 v W;go_simp <;> with_reducible rfl
 ·exact fun _ _ _=>id
 try simp only [putS]
 refine wpAnyH_ready (rs:=[3,6]) (by rw [hops.out];kernel_rfl) (by simp) ?_;refine AllReadyH.cons (o:=?_) ?_ (fun K hK=>?_) ?_
 rotate_left 1
 ·rw [hops.out];simp only [getS];rfl
 ·rw [if_pos (by rfl)];go_simp;refine hK _ _ trivial (fun _=>?_);clear hK K
  try simp only [putS]
  refine wpAnyH_ready (rs:=[6]) (by rw [hops.out];kernel_rfl) (by simp) ?_;refine AllReadyH.cons (o:=?_) ?_ (fun K hK=>?_) ?_
  rotate_left 1
  ·rw [hops.out];simp only [getS];rfl
  ·rw [if_pos (by rfl)];go_simp;refine hK _ _ trivial (fun _=>?_);clear hK K
   try simp only [putS]
   have ho2:=(HH.out.hq.row.drew).alloc (.cells #[.pointer (some (U k 0))] 272);have nw2:=Zaa (YAE W.drew (.cells #[.pointer (some (U k 0))] 272)) 0;have hs2:lo<=(W.drew.alloc (.cells #[.pointer (some (U k 0))] 272)).heap.size:=by simp;omega
   refine TC 7 ?_;intro K hK;refine Zf2 _ _ rfl q k n rfl ho2 rfl nw2 (by omega) hs2 ?_;intro v' W3 ho3 hg3;obtain⟨na,nc,rfl⟩:=Zac ho3;refine hK _ _ trivial (fun _=>?_);clear hK K
   try simp only [putS]
   refine ZbA 8 ?_ ?_ ?_ (by rw [hops.out];kernel_rfl) ?_ ?_ trivial ?_
   rotate_left 2
   ·rw [hops.out];simp only [getS];rfl
   ·intro W _;have hAs:=fun v=>Zm2 v W;go_simp <;> with_reducible rfl
   ·exact fun _ _ _=>id
   try simp only [putS]
   obtain⟨d7,f7,r1,r2⟩:=HFIN.out W3 _ ((W.alloc (.cells #[.pointer (some (U k 0))] 272)).drew) (fun j hj=>YAL W _ j hj) (by show W.heap.size<=(W.alloc (.cells #[.pointer (some (U k 0))] 272)).heap.size;simp) rfl rfl rfl ho3 hg3;have R1:=hide r1;have R2:=hide r2;clear r1 r2 ho3 hg3 ho2 nw2 HFIN HH;refine TC 9 ?_;intro K hK;have f77:=f7 7;go_simp;refine hK _ _ trivial (fun _=>?_);clear hK K;refine wpAnyH_done (by rw [hops.out];kernel_rfl) ?_ _;clear hops ops;go_wp2
   go_returns
   exact⟨_,rfl,R1,R2⟩
  exact AllReadyH.nil
 refine AllReadyH.cons (o:=?_) ?_ (fun K hK=>?_) ?_
 rotate_left 1
 ·rw [hops.out];simp only [getS];rfl
 ·rw [if_pos (by rfl)];go_simp;refine hK _ _ trivial (fun _=>?_);clear hK K
  try simp only [putS]
  refine wpAnyH_ready (rs:=[3]) (by rw [hops.out];kernel_rfl) (by simp) ?_;refine AllReadyH.cons (o:=?_) ?_ (fun K hK=>?_) ?_
  rotate_left 1
  ·rw [hops.out];simp only [getS];rfl
  ·rw [if_pos (by rfl)];have cz5:(W.drew.alloc (.cells #[.pointer (some (U k 0))] 272)).cell? (U z 7)=some (.slice a1 n c1):=by
    rw [World.cell?_of_block (YAL _ _ _ (by simpa using lz))];exact czd
   go_simp;refine hK _ _ trivial (fun _=>?_);clear hK K cz5
   try simp only [putS]
   have ho2:=(HH.out.hq.row.drew).alloc (.cells #[.pointer (some (U k 0))] 272);have nw2:=Zaa (YAE W.drew (.cells #[.pointer (some (U k 0))] 272)) 0;have hs2:lo<=(W.drew.alloc (.cells #[.pointer (some (U k 0))] 272)).heap.size:=by simp;omega
   refine TC 7 ?_;intro K hK;refine Zf2 _ _ rfl q k n rfl ho2 rfl nw2 (by omega) hs2 ?_;intro v' W3 ho3 hg3;obtain⟨na,nc,rfl⟩:=Zac ho3;refine hK _ _ trivial (fun _=>?_);clear hK K
   try simp only [putS]
   refine ZbA 8 ?_ ?_ ?_ (by rw [hops.out];kernel_rfl) ?_ ?_ trivial ?_
   rotate_left 2
   ·rw [hops.out];simp only [getS];rfl
   ·intro W _;have hAs:=fun v=>Zm2 v W;go_simp <;> with_reducible rfl
   ·exact fun _ _ _=>id
   try simp only [putS]
   obtain⟨d7,f7,r1,r2⟩:=HFIN.out W3 _ ((W.alloc (.cells #[.pointer (some (U k 0))] 272)).drew) (fun j hj=>YAL W _ j hj) (by show W.heap.size<=(W.alloc (.cells #[.pointer (some (U k 0))] 272)).heap.size;simp) rfl rfl rfl ho3 hg3;have R1:=hide r1;have R2:=hide r2;clear r1 r2 ho3 hg3 ho2 nw2 HFIN HH;refine TC 9 ?_;intro K hK;have f77:=f7 7;go_simp;refine hK _ _ trivial (fun _=>?_);clear hK K;refine wpAnyH_done (by rw [hops.out];kernel_rfl) ?_ _;clear hops ops;go_wp2
   go_returns
   exact⟨_,rfl,R1,R2⟩
  exact AllReadyH.nil
 exact AllReadyH.nil
theorem Zq9 (W:World)(lo z n:Nat)(C:Array Value)(u:Value)(q:Nat->Nat)(wd:Nat->WayD)(wv:Nat->Value)(h:HB W lo z C u (n+1) q wd wv)(hn:n<=1000)(hC:C.size=8)(hz:lo<=z):
  Calls Tryz.prog 335 #[.pointer (some (U z 7))] W fun e W'=>∃ u',e=.returned (.iface 272 (ptrV (q n)))/\HB W' lo z (C.setIfInBounds 7 u') u' n q wd wv/\FK W W' lo z:=by
 obtain⟨g,cap,hu,cn,hg⟩:=h.hq.cell (i:=n) (by omega);have cz:=h.cell;have fz:=Zae h.box;subst hu;unfold ptrV at cn |-;have hcap:n+1<=cap:=by
  rcases h.hq.row.2 with ⟨e1,_⟩ | ⟨g',cap',cur,hv,_,hh,hnc,_⟩
  ·cases e1
  ·cases hv;exact hnc
 have R1:=hide (show HB (W.setCell (U z 7) (.slice (some (U g 0)) n cap)) lo z (C.setIfInBounds 7 (.slice (some (U g 0)) n cap)) (.slice (some (U g 0)) n cap) n q wd wv by
  have hzg:some z≠(Value.slice (some (U g 0)) (n+1) cap).ownBlock:=Zaq h.hq.row h.box (by decide);have hgz:g≠z:=fun e=>hzg (by rw [e];rfl);refine⟨YAd _ _ 7 _ _ _ h.box,by simp [hC],?_,fun i hi=>?_,fun i hi=>h.hq.sl i (by omega)⟩
  ·have o1:=Zq7 h.hq.row (k:=n) (by omega);rw [Zpt q (by omega)] at o1;exact Zal o1 (fun j hj=>YAU W (U z 7) j _ (fun e=>by
    have e':j=z:=e;simp [Value.ownBlock] at hj;omega))
  ·have hw:=h.hq.way i (by omega);rw [YAU W (U z 7) (q i) _ (fun e=>by
    have e':q i=z:=e;rw [e',h.box] at hw;simp at hw)]
   exact hw)
 have R2:=hide (show FK W (W.setCell (U z 7) (.slice (some (U g 0)) n cap)) lo z from FK.of_set _ hz);have f7:=fz 7;have hw1:IntKind.i64.wrap (((n+1:Nat):Int)-1)=(n:Int):=by rw [ZaN _ (by omega) (by omega)];omega
 have hw2:IntKind.i64.wrap ((n:Int)+1-1)=(n:Int):=by rw [ZaN _ (by omega) (by omega)];omega
 have h1:(0:Int)<=(n:Int):=by omega
 have h2:(n:Int)<((n+1:Nat):Int):=by omega
 have h3:(n:Int)<=(cap:Int):=by omega
 clear h fz hC
 go_enter Tryz.func335,Tryz.ntmps335
 go_wp2;go_ret
 first
  | exact ⟨_,rfl,R1,R2⟩
  | exact ⟨rfl,_,R1,R2⟩
theorem Zke (W:World)(lo z n:Nat)(C:Array Value)(u:Value)(q:Nat->Nat)(wd:Nat->WayD)(wv:Nat->Value)(k:Nat)(h:HB W lo z C u n q wd wv)(hlo:lo<=W.heap.size)(hn:n<=1000)(hC:C.size=8)(hz:lo<=z)
  (hk:W.heap[k]? = some (.cells (wayC (wd k) (wv k)) 193)) (hks:∃ a l c,wv k=.slice a l c) (hh:Zc7 (fun k=>(wd k).cost) q n):
  Calls Tryz.prog 261 #[.iface 295 (.pointer (some (U z 7))),.iface 272 (.pointer (some (U k 0)))] W fun e W'=>∃ u' q',e=.returned (.tuple #[])/\Zc7 (fun k=>(wd k).cost) q' (n+1)/\Shuf (fun x=>if x=n then k else q x) q' (n+1)/\HB W' lo z (C.setIfInBounds 7 u') u' (n+1) q' wd wv/\FK W W' lo z:=by
 have HP:=hide (Zpu W lo z n C u q wd wv k h hlo hn hC hz hk hks);have HUP:=hide (Zsd (k:=k) hh);clear h hk hh
 go_enter Tryz.func261,Tryz.ntmps261
 go_wp2_with fail
 refine HP.out.mono ?_;rintro e w1 ⟨u',rfl,h1,f1⟩;have cz1:=h1.cell;obtain⟨a1,c1,rfl⟩:=Zac h1.hq.row;have mL:=Zmt cz1;have hs1:lo<=w1.heap.size:=YAG hlo f1.size;have HU:=hide (up_any w1 lo z (n+1) _ _ _ wd wv n h1 (by omega) (by omega) HUP);have HF1:=hide f1;have HR1:=hide h1.hq.row;have hw1:IntKind.i64.wrap (((n+1:Nat):Int)-1)=(n:Int):=by rw [ZaN _ (by omega) (by omega)];omega
 have hw2:IntKind.i64.wrap ((n:Int)+1-1)=(n:Int):=by rw [ZaN _ (by omega) (by omega)];omega
 clear h1 f1 HP HUP
 go_wp2_with fail
 refine (Zjf _ _ _ _).mono ?_;rintro e w2 ⟨rfl,rfl⟩
 go_wp2_with fail
 refine HU.out.mono ?_;rintro e w2 ⟨q',rfl,hi,hsh,hb,hg⟩;have HI:=hide hi;have HS:=hide hsh;have HB2:=hide hb;have HF2:=hide (HF1.out.trans (FK.of_grown HR1 hg hs1));clear hi hsh hb hg mL;go_wp2
 go_returns
 exact⟨_,q',rfl,HI,HS,HB2,HF2⟩
theorem Zkd {C:Array Value}{q:Nat->Nat}{wd:Nat->WayD}{wv:Nat->Value}(h:HB W lo z C u n q wd wv)(hg:W.grownBy W' u.ownBlock)(hlo:lo<=W.heap.size):FK W W' lo z:=FK.of_grown h.hq.row hg hlo
theorem Zli (W:World)(lo z n:Nat)(C:Array Value)(u:Value)(q:Nat->Nat)(wd:Nat->WayD)(wv:Nat->Value)(h:HB W lo z C u (n+1) q wd wv)(hlo:lo<=W.heap.size)(hn:n<=1000)(hC:C.size=8)(hz:lo<=z)(hh:Zc7 (fun k=>(wd k).cost) q (n+1)):
  Calls Tryz.prog 263 #[.iface 295 (.pointer (some (U z 7)))] W fun e W'=>∃ u' q',e=.returned (.iface 272 (ptrV (q 0)))/\Zc7 (fun k=>(wd k).cost) q' n/\Shuf (Zcu q 0 n) q' n/\HB W' lo z (C.setIfInBounds 7 u') u' n q' wd wv/\FK W W' lo z:=by
 have cz:=h.cell;obtain⟨a1,c1,rfl⟩:=Zac h.hq.row;have mL:=Zmt cz;have mS:=Zel cz;have HSW:=hide (ZfY W lo (n+1) _ q 0 n h.hq.row (by omega) (by omega));have HPD:=hide (Zra hh);have HH:=hide h;have hw1:IntKind.i64.wrap (((n+1:Nat):Int)-1)=(n:Int):=by rw [ZaN _ (by omega) (by omega)];omega
 have hw2:IntKind.i64.wrap ((n:Int)+1-1)=(n:Int):=by rw [ZaN _ (by omega) (by omega)];omega
 clear h hh
 go_enter Tryz.func263,Tryz.ntmps263
 go_wp2_with fail
 refine (Zjf _ _ _ _).mono ?_;rintro e w1 ⟨rfl,rfl⟩
 go_wp2_with fail
 refine HSW.out.mono ?_;rintro e w2 ⟨rfl,ho2,hg2⟩;have h2:=HH.out.shuf hg2 ho2 (Shuf.swap q (by omega) (by omega));have hs2:lo<=w2.heap.size:=YAG hlo hg2.size;have HD:=hide (Zqn w2 lo z n (n+1) C _ _ wd wv h2 (by omega) (by omega) HPD);have HF2:=hide (Zkd HH hg2 hlo (z:=z));have HH2:=hide h2;clear h2 ho2 hg2 mL mS cz HSW HPD
 go_wp2_with fail
 refine HD.out.mono ?_;rintro e w3 ⟨r,q',rfl,hi,hsh,hb,hg⟩;have HI:=hide hi;have HS:=hide hsh;have HF3:=hide (HF2.out.trans (Zkd HH2 hg hs2 (z:=z)));have HPO:=hide (Zq9 w3 lo z n C _ q' wd wv hb hn hC hz);have HQ0:=hide (show q' n=q 0 by
  rw [hsh.rest n (YA _)];unfold Zcu;by_cases e:n=0
  ·rw [if_pos e,e]
  ·rw [if_neg e,if_pos rfl])
 clear hi hsh hb hg HD
 go_wp2_with fail
 refine HPO.out.mono ?_;rintro e w4 ⟨u',rfl,hb4,f4⟩;rw [HQ0.out];have HB4:=hide hb4;have HF4:=hide (HF3.out.trans f4);clear hb4 f4 HPO;go_wp2
 go_returns
 exact⟨_,q',rfl,HI,HS,HB4,HF4⟩
theorem Znj (base g cap n m i vb:Nat)(ps:List WP)(r:WP)(w:World)(hnp:n=ps.length)(hm:m=1) (hrow:w.ownsRow base 193 3 (.slice (some (U g 0)) n cap) n (flat encW ps)) (hi:i<n) (hroom:n+m<=cap)
  (hvb:w.heap[vb]? = some (.cells (encW r).toArray 193 (0,0))) (hne:vb≠g) (hone:∀ p∈ps,∃ a k c,p.2=.slice a k c) (hr1:∀ u∈encW r,u.oneCell'=true):
  Calls Tryz.prog 246 #[.slice (some (U g 0)) n cap,M (i:Int),.slice (some (U vb 0)) m 1] w fun e w'=>∃ v,e=.returned v/\w'.ownsRow base 193 3 v (n+m) (flat encW (ps.take i++[r]++ps.drop i))/\w.grownBy w' (some g)/\(v.ownBlock=some g\/v.ownBlock=some w.heap.size):=by
 have hnl:(flat encW ps).length=n*3:=hrow.1;have hui:=Tryz.underlying187;have hus:=Tryz.underlying187;obtain⟨i0,hi0,hz0,hzs,hzb⟩:=info_parts Tryz.infoWay;have hsz:(Tryz.prog.info? 193).map (·.size)=some 3:=by rw [hi0];simp [hzs]
 rcases hrow.2 with ⟨h0,_⟩ | ⟨g',cap',cur,hv,hbg,hg,hnc,hcm,hcs,htk⟩
 ·simp at h0
 simp at hv;obtain⟨rfl,rfl⟩:=hv;have hmx:maxLen=9223372036854775807\/maxLen<=9223372036854775807:=by unfold maxLen;omega
 have hc63:cap<=9223372036854775807:=by omega
 have hD:(flat encW (ps.drop i)).length=(n-i)*3:=by rw [ZaD Zbj,YAj, <-hnp]
 have hclen:cur.toList.length=cap*3:=by simpa using hcs
 have hRl:(encW r).length=3:=Zbj r;have hov:∀ lb cb,(callFunc 268 #[.slice (some (U vb 0)) m 1,.slice (some (U g ((i+m)*3))) lb cb]).run Tryz.prog w=.ok (.value (.bool false)) w:=fun lb cb=>by
  rw [run_callFunc_extern Tryz.func268 (by kernel_rfl) (by kernel_rfl) (by kernel_rfl) (e:=Extern.SlicesOverlaps.overlaps #[187,187] #[4]) (by kernel_rfl),
   Lib.run_overlaps_apart w 187 4 193 hus 3 (by intro w;simp [Go.sizeOf,typeInfo,hi0,hzs]) (U vb 0) (U g ((i+m)*3)) m 1 lb cb hne 193 193 3 cur.size (by simp [World.shape?,hvb,hRl]) (by simp [World.shape?,hg]) (by omega) (Zae hvb 0) (Zae hvb 3)]
  rfl
 have hcell:∀ (W:World),W.heap=w.heap->∀ j u,(flat encW (ps.drop i))[j]? = some u->W.cell? (((U g (i*3)):Addr).add j)=some u:=fun W hW j u hj=>by
  rw [add8];simp only [World.cell?,hW,hg];rw [<-Zig ps i (by omega), <-htk,List.getElem?_drop] at hj;have h2:i*3+j<n*3:=by
   have h3:=(YAD.1 hj).1;rw [YAS] at h3;omega
  rw [YAo h2] at hj;simpa using hj
 have hcp1:∀ (W:World),W.heap=w.heap->∀ ty dc sc,(Builtin.copy_ #[187,187] ty #[.slice (some (U g ((i+m)*3))) (n+m-(i+m)) dc,.slice (some (U g (i*3))) (n+m-i) sc]).run Tryz.prog W=.ok (goInt (Nat.min (n+m-i) (n+m-(i+m)))) (W.setRow g (cur.toList.take ((i+m)*3)++flat encW (ps.drop i)++cur.toList.drop ((i+m)*3+(flat encW (ps.drop i)).length)).toArray):=fun W hW ty dc sc=>
  ZaY W 187 187 ty 193 g ((i+m)*3) (n+m-(i+m)) dc (U g (i*3)) (n+m-i) sc 3 cur 193 (flat encW (ps.drop i)) hui hsz (by rw [hW];exact hg)
   (by rw [hD];congr 1;have:Nat.min (n+m-i) (n+m-(i+m))=n+m-(i+m):=Nat.min_eq_right (by omega);omega) (hcell W hW) (by rw [hD];omega) (ZfG _ (fun p hp=>hone p (List.mem_of_mem_drop hp)))
 obtain⟨c1,hc1⟩:∃ c1,c1=cur.toList.take ((i+m)*3)++flat encW (ps.drop i)++cur.toList.drop ((i+m)*3+(flat encW (ps.drop i)).length):=⟨_,rfl⟩;rw [<-hc1] at hcp1;have hc1l:c1.length=cap*3:=by rw [hc1];simp only [YAO,YAS,YAj,hclen,hD];omega
 have hcp2:∀ (W:World),W.heap=(w.setRow g c1.toArray).heap->∀ ty dc,(Builtin.copy_ #[187,187] ty #[.slice (some (U g (i*3))) (n+m-i) dc,.slice (some (U vb 0)) m 1]).run Tryz.prog W=.ok (goInt (Nat.min m (n+m-i))) (W.setRow g (c1.take (i*3)++encW r++c1.drop (i*3+(encW r).length)).toArray):=fun W hW ty dc=>by
  have h:=ZaY (P:=Tryz.prog) W 187 187 ty 193 g (i*3) (n+m-i) dc (U vb 0) m 1 3 c1.toArray 193 (encW r) hui hsz (by rw [hW];exact setRow_heap w g cur _ 193 _ hg)
   (by rw [hRl];have:Nat.min m (n+m-i)=m:=YAR (by omega);omega) (fun j u hj=>by
    rw [add8];simp only [World.cell?,hW];rw [setRow_other w g vb _ hne,hvb];simpa using hj) (by rw [hRl];simp only [List.size_toArray,hc1l];omega) hr1
  simpa using h
 have hfin:c1.take (i*3)++encW r++c1.drop (i*3+(encW r).length)=flat encW (ps.take i)++encW r++flat encW (ps.drop i)++cur.toList.drop (i*3+3+(n-i)*3):=by
  have h:=Zrh cur.toList (flat encW (ps.drop i)) (encW r) (i*3) ((n-i)*3) hD hRl (by omega);rw [show i*3+3=(i+m)*3 by omega, <-hc1] at h;rw [h];congr 3
  ·rw [<-Zih ps i (by omega), <-htk,List.take_take,YAR (by omega)]
  ·omega
 have hdone:∀ W:World,W.heap=((w.setRow g c1.toArray).setRow g (c1.take (i*3)++encW r++c1.drop (i*3+(encW r).length)).toArray).heap->W.os=w.os->W.tape=w.tape->W.output=w.output->W.ownsRow base 193 3 (.slice (some (U g 0)) (n+m) cap) (n+m) (flat encW (ps.take i++[r]++ps.drop i))/\w.grownBy W (some g)/\((Value.slice (some (U g 0)) (n+m) cap).ownBlock=some g\/(Value.slice (some (U g 0)) (n+m) cap).ownBlock=some w.heap.size):=by
  intro W hW h1 h2 h3;have hAl:(flat encW (ps.take i)).length=i*3:=by rw [ZaD Zbj,YAS,YAR (by omega)]
  refine⟨⟨?_,.inr ⟨g,cap,(flat encW (ps.take i)++encW r++flat encW (ps.drop i)++cur.toList.drop (i*3+3+(n-i)*3)).toArray,rfl,hbg,?_,hroom,hcm,?_,?_⟩⟩,⟨h1,h2,h3,?_,?_⟩,.inl rfl⟩
  ·rw [ZaD Zbj,Zjd ps r i (by omega)];omega
  ·rw [hW,hfin];exact setRow_heap _ g c1.toArray _ 193 _ (setRow_heap w g cur _ 193 _ hg)
  ·simp only [List.size_toArray,YAO,YAj,hclen,hD,hRl,hAl];omega
  ·rw [Zg3];exact Zb6 (by rw [hAl,hRl,hD];omega)
  ·rw [hW];simp
  ·intro k _ hk;have hkg:k≠g:=fun e=>hk (by rw [e]);rw [hW,setRow_other _ g k _ hkg,setRow_other _ g k _ hkg]
 have hz1:¬((m:Int)=0):=by omega
 have hz2:¬((i:Int)=(n:Int)):=by omega
 have hw1:IntKind.i64.wrap ((i:Int)+(m:Int))=(i:Int)+(m:Int):=by rw [IntKind.wrap_i64];omega
 have hw2:IntKind.i64.wrap ((n:Int)+(m:Int))=(n:Int)+(m:Int):=by rw [IntKind.wrap_i64];omega
 have hb1:(0:Int)<=(i:Int)+(m:Int):=by omega
 have hin:i<=n:=by omega
 have htn:((i:Int)+(m:Int)).toNat=i+m:=by omega
 have htn2:((n:Int)+(m:Int)).toNat=n+m:=by omega
 have hb2:¬(cap=i+m):=by omega
 have hb3:(i:Int)<=(n:Int)+(m:Int):=by omega
 have hb4:¬(cap=i):=by omega
 have hb5:¬((cap:Int)<(n:Int)+(m:Int)):=by omega
 have HD:=hide hdone;have HC1:=hide (hcp1 w.drew rfl);have mixed:Tryz.prog.follows .mixedOrders=true:=by kernel_rfl
 have HC2:=hide (hcp2 (w.drew.setRow g c1.toArray) rfl);have HOV:=hide hov;clear hdone hcp1 hcp2 hfin hc1 hcell hD hclen hRl hnl hov hc1l htk hcs hg hrow hvb hone hr1 hmx hsz hi0 hz0 hzs hzb hm hnp
 go_enter Tryz.func246,Tryz.ntmps246
 go_wp2_with (simp only [HOV.out])
 go_region_law_o (refine step_copy_runI rfl _ _ 187 187 rfl (.slice (some (U g ((i+m)*3))) (n+m-(i+m)) (cap-(i+m))) (.slice (some (U g (i*3))) (n+m-i) (cap-i)) (by simp [Act.eval,Act.put]) (by simp [Act.eval,Act.put]) (HC1 3 (cap-(i+m)) (cap-i)) ?_)
 go_wp2_with (refine wpList_copy_runI _ rfl _ _ 187 187 rfl (.slice (some (U g (i*3))) (n+m-i) (cap-i)) (.slice (some (U vb 0)) m 1) rfl rfl (HC2 3 (cap-i)) ?_)
 go_ret;exact⟨_,rfl,HD _ (by rw [<-YAW];rfl) rfl rfl rfl⟩
theorem Zhy (base n m vb:Nat)(v:Value)(ps:List WP)(r:WP)(w:World)(hnp:n=ps.length)(hm:m=1)(hbase:base<=w.heap.size)(hn:n<=1048576)(hrow:w.ownsRow base 193 3 v n (flat encW ps))
  (hvb:w.heap[vb]? = some (.cells (encW r).toArray 193 (0,0))) (hr1:∀ u∈encW r,u.oneCell'=true):∃ v' w',(∀ ty,(Builtin.append_ #[187,187] ty #[v,.slice (some (U vb 0)) m 1]).run Tryz.prog w=.ok v' w')/\w'.ownsRow base 193 3 v' (n+m) (flat encW (ps.take n++[r]++ps.drop n))/\w.grownBy w' v.ownBlock/\(v'.ownBlock=v.ownBlock\/v'.ownBlock=some w.heap.size):=by
 obtain⟨i0,hi0,hz0,hzs,hzb⟩:=info_parts Tryz.infoWay;obtain⟨a,c,hv⟩:=Zac hrow;obtain⟨v',w',h1,h2,h3,_,h4⟩:=run_append_own_at (P:=Tryz.prog) w base 187 187 193 i0 _ 3 i0.bytes Tryz.underlying187 hi0 hz0 hzs rfl rfl (by omega) v n (flat encW ps) hrow (U vb 0) m 1 (encW r) (by rw [Zbj,hm]) (fun j u hj=>by
  rw [add8,Nat.zero_add,Zaa hvb];simpa using hj) hr1 (by unfold maxLen;omega) (by rw [hzb];omega) hbase
 refine⟨v',w',fun ty=>?_,?_,h3,h4⟩
 ·rw [hv,Zd9 w 187 187 ty 193 i0 Tryz.underlying187 Tryz.underlying187 hi0, <-hv];exact h1
 ·rw [Zg3,hnp,YAf,List.drop_length];rw [hnp] at h2;simpa [flat] using h2
theorem ZqE (base n m vb:Nat)(v:Value)(ps:List WP)(r:WP)(w:World)(hnp:n=ps.length)(hm:m=1)(hbase:base<=w.heap.size)(hn:n<=1048576)(hrow:w.ownsRow base 193 3 v n (flat encW ps))
  (hvb:w.heap[vb]? = some (.cells (encW r).toArray 193 (0,0))) (hr1:∀ u∈encW r,u.oneCell'=true):
  Calls Tryz.prog 246 #[v,M (n:Int),.slice (some (U vb 0)) m 1] w fun e w'=>∃ v',e=.returned v'/\w'.ownsRow base 193 3 v' (n+m) (flat encW (ps.take n++[r]++ps.drop n))/\w.grownBy w' v.ownBlock/\(v'.ownBlock=v.ownBlock\/v'.ownBlock=some w.heap.size):=by
 obtain⟨v',w',h1,h2,h3,h4⟩:=Zhy base n m vb v ps r w hnp hm hbase hn hrow hvb hr1;obtain⟨va,vc,hve⟩:=Zac h2;subst hve;have HR:=hide h1;generalize ps.take n++[r]++ps.drop n=l at *;have H2:=hide h2;have H3:=hide h3;have H4:=hide h4;have hz1:¬((m:Int)=0):=by omega
 clear h1 h2 h3 h4 hvb hr1 hm hnp;rcases hrow.2 with ⟨h0,hn0⟩ | ⟨g,cap,cur,hv,hbg,hg,hnc,hcm,hcs,htk⟩
 ·subst h0;clear hrow;subst hn0
  go_enter Tryz.func246,Tryz.ntmps246
  go_wp2_with (at_builtin;refine Lib.wpList_append_run _ rfl _ _ _ _ rfl _ _ rfl rfl _ _ (HR _) ?_)
  go_ret;exact⟨_,rfl,(by simpa using H2.out),H3.out,(by simpa [Value.ownBlock] using H4.out)⟩
 ·subst hv;have hc63:cap<=9223372036854775807:=by unfold maxLen at hcm;omega
  clear hrow hg hcs htk
  go_enter Tryz.func246,Tryz.ntmps246
  go_wp2_with (at_builtin;refine Lib.wpList_append_run _ rfl _ _ _ _ rfl _ _ rfl rfl _ _ (HR _) ?_)
  all_goals (go_ret;exact⟨_,rfl,H2,H3,H4⟩)
theorem ZoV (base g cap n m i vb:Nat)(ps:List WP)(r:WP)(w:World)(hnp:n=ps.length)(hm:m=1)(hbase:base<=w.heap.size)(hn:n<=1048576) (hrow:w.ownsRow base 193 3 (.slice (some (U g 0)) n cap) n (flat encW ps)) (hi:i<n) (hroom:cap<n+m)
  (hvb:w.heap[vb]? = some (.cells (encW r).toArray 193 (0,0))) (hone:∀ p∈ps,∃ a k c,p.2=.slice a k c) (hr1:∀ u∈encW r,u.oneCell'=true):
  Calls Tryz.prog 246 #[.slice (some (U g 0)) n cap,M (i:Int),.slice (some (U vb 0)) m 1] w fun e w'=>∃ v,e=.returned v/\w'.ownsRow base 193 3 v (n+m) (flat encW (ps.take i++[r]++ps.drop i))/\w.grownBy w' (some g)/\(v.ownBlock=some g\/v.ownBlock=some w.heap.size):=by
 have hnl:(flat encW ps).length=n*3:=hrow.1;have hui:=Tryz.underlying187;have hus:=Tryz.underlying187;obtain⟨i0,hi0,hz0,hzs,hzb⟩:=info_parts Tryz.infoWay;have hsz:(Tryz.prog.info? 193).map (·.size)=some 3:=by rw [hi0];simp [hzs]
 rcases hrow.2 with ⟨h0,_⟩ | ⟨g',cap',cur,hv,hbg,hg,hnc,hcm,hcs,htk⟩
 ·simp at h0
 simp at hv;obtain⟨rfl,rfl⟩:=hv;have hc63:cap<=9223372036854775807:=by unfold maxLen at hcm;omega
 have hgw:=Zab hg;have hvw:=Zab hvb;have hD:(flat encW (ps.drop i)).length=(n-i)*3:=by rw [ZaD Zbj,YAj, <-hnp]
 have hAl:(flat encW (ps.take i)).length=i*3:=by rw [ZaD Zbj,YAS,YAR (by omega)]
 have hRl:(encW r).length=3:=Zbj r;have hkk:(n:Int)+(m:Int)-(i:Int)=((n+m-i:Nat):Int):=by omega
 have hik:i+(n+m-i)=n+m:=by omega
 have hcellw:∀ (j:Nat) (u:Value),(flat encW ps)[j]? = some u->w.cell? (U g j)=some u:=fun j u hj=>by
  have h2:j<n*3:=by rw [<-hnl];exact (YAD.1 hj).1
  rw [<-htk,YAo h2] at hj;rw [Zaa hg];simpa using hj
 have hold:(Builtin.firstCells i0.size i (.slice (some (U g 0)) i cap)).run Tryz.prog w.drew=.ok (flat encW (ps.take i)).toArray w.drew:=by
  rw [hzs];exact run_firstCells_some w.drew 3 i (U g 0) i cap (flat encW (ps.take i)) hAl (fun j v hj=>by
   rw [add8,Nat.zero_add];refine hcellw j v ?_;rw [<-Zih ps i (by omega),List.getElem?_take] at hj
   split at hj
   ·exact hj
   ·cases hj)
 have hrz0:=Lib.run_append_grow_zeros (P:=Tryz.prog) w 187 3 187 193 i0 _ .i64 .i64 hui Tryz.underlying3 hi0 hz0 (some (U g 0)) i cap (flat encW (ps.take i)) hold (n+m-i) (by omega) (by rw [hzs];omega) (by omega) (by omega) (by rw [hzb];omega) (by rw [hzb,hik];exact growslice_fits hroom (by omega));rw [hik] at hrz0;have hGn:=grownCap_ge w (n+m) cap 193;have hGm:=grownCap_le_maxLen w (n+m) cap 193 (by unfold maxLen;omega);obtain⟨G,hG⟩:∃ G,G=grownCap w (n+m) cap 193:=⟨_,rfl⟩;rw [<-hG] at hrz0 hGn hGm;obtain⟨ROW,hROW⟩:∃ ROW:Array Value,ROW=(flat encW (ps.take i)).toArray++Builtin.zeroCells (Value.agg (wayC Zbo (.slice none 0 0))).cells (n+m-i)++Builtin.zeroCells (Value.agg (wayC Zbo (.slice none 0 0))).cells (G-(n+m)):=⟨_,rfl⟩;rw [<-hROW] at hrz0;have hRs:ROW.size=G*3:=by
  rw [hROW];simp only [Array.size_append,List.size_toArray,size_zeroCells,hAl,show (Value.agg (wayC Zbo (.slice none 0 0))).cells.size=3 from rfl];omega
 have hRt:ROW.toList.take (i*3)=flat encW (ps.take i):=by
  rw [hROW];simp only [Array.toList_append,YAW];rw [<-hAl];exact List.take_left
 obtain⟨N,hN⟩:∃ N,N=w.heap.size:=⟨_,rfl⟩;obtain⟨W1,hW1⟩:∃ W1,W1=w.drew.alloc (.cells ROW 193):=⟨_,rfl⟩;rw [<-hW1, <-hN] at hrz0;have hrz:∀ ty,(Builtin.append_ #[187,3] ty #[.slice (some (U g 0)) i cap,M ((n:Int)+(m:Int)-(i:Int))]).run Tryz.prog w=.ok (.slice (some (U N 0)) (n+m) G) W1:=fun ty=>by
  rw [hkk];exact hrz0
 have g1:W1.heap[N]? = some (.cells ROW 193 (0,0)):=by rw [hW1,hN];exact YAE w.drew _
 have b1:∀ k,k<N->W1.heap[k]? = w.heap[k]? := fun k hk=>by rw [hW1];exact YAL _ _ _ (by rw [hN] at hk;exact hk)
 have s1:W1.heap.size=N+1:=by rw [hW1,hN];simp
 have hcpA:∀ ty dc,(Builtin.copy_ #[187,187] ty #[.slice (some (U N (i*3))) (n+m-i) dc,.slice (some (U vb 0)) m 1]).run Tryz.prog W1=.ok (goInt (Nat.min m (n+m-i))) (W1.setRow N (ROW.toList.take (i*3)++encW r++ROW.toList.drop (i*3+(encW r).length)).toArray):=fun ty dc=>
  ZaY W1 187 187 ty 193 N (i*3) (n+m-i) dc (U vb 0) m 1 3 ROW 193 (encW r) hui hsz g1
   (by rw [hRl];have:Nat.min m (n+m-i)=m:=YAR (by omega);omega) (fun j u hj=>by
    rw [add8,Nat.zero_add];simp only [World.cell?];rw [b1 vb (by omega),hvb];simpa using hj) (by rw [hRl,hRs];omega) hr1
 obtain⟨c1,hc1⟩:∃ c1,c1=ROW.toList.take (i*3)++encW r++ROW.toList.drop (i*3+(encW r).length):=⟨_,rfl⟩;rw [<-hc1] at hcpA;have hc1l:c1.length=G*3:=by
  rw [hc1];simp only [YAO,YAS,YAj,Array.length_toList,hRs,hRl];omega
 have hc1t:c1.take ((i+m)*3)=flat encW (ps.take i)++encW r:=by
  rw [hc1,hRt];rw [List.take_append_of_le_length (by simp only [YAO,hAl,hRl];omega),YAP (by simp only [YAO,hAl,hRl];omega)]
 obtain⟨W2,hW2⟩:∃ W2,W2=W1.setRow N c1.toArray:=⟨_,rfl⟩;rw [<-hW2] at hcpA;have g2:W2.heap[N]? = some (.cells c1.toArray 193 (0,0)):=by rw [hW2];exact setRow_heap W1 N ROW _ 193 _ g1
 have b2:∀ k,k<N->W2.heap[k]? = w.heap[k]? := fun k hk=>by rw [hW2,setRow_other W1 N k _ (by omega)];exact b1 k hk
 have s2:W2.heap.size=N+1:=by rw [hW2];simpa using s1
 have hcpB0:=fun dc sc=>ZaY (P:=Tryz.prog) W2.drew 187 187 3 193 N ((i+m)*3) (n+m-(i+m)) dc (U g (i*3)) (n-i) sc 3 c1.toArray 193 (flat encW (ps.drop i)) hui hsz g2
   (by rw [hD];congr 1;have:Nat.min (n-i) (n+m-(i+m))=n-i:=YAR (by omega);omega) (fun j u hj=>by
    rw [add8];have h2:=hcellw (i*3+j) u (by rw [<-Zig ps i (by omega),List.getElem?_drop] at hj;exact hj);simp only [World.cell?] at h2 |-
    rw [show W2.drew.heap[g]? = w.heap[g]? from b2 g (by omega)];exact h2) (by rw [hD];simp only [List.size_toArray,hc1l];omega) (ZfG _ (fun p hp=>hone p (List.mem_of_mem_drop hp)))
 obtain⟨c2,hc2⟩:∃ c2,c2=c1.take ((i+m)*3)++flat encW (ps.drop i)++c1.drop ((i+m)*3+(flat encW (ps.drop i)).length):=⟨_,rfl⟩;simp only [<-hc2] at hcpB0;obtain⟨W3,hW3⟩:∃ W3,W3=W2.drew.setRow N c2.toArray:=⟨_,rfl⟩;rw [<-hW3] at hcpB0;have g3:W3.heap[N]? = some (.cells c2.toArray 193 (0,0)):=by rw [hW3];exact setRow_heap W2.drew N c1.toArray _ 193 _ g2
 have b3:∀ k,k<N->W3.heap[k]? = w.heap[k]? := fun k hk=>by rw [hW3,setRow_other W2.drew N k _ (by omega)];exact b2 k hk
 have s3:W3.heap.size=N+1:=by rw [hW3];simpa using s2
 have hfin:W3.ownsRow base 193 3 (.slice (some (U N 0)) (n+m) G) (n+m) (flat encW (ps.take i++[r]++ps.drop i))/\w.grownBy W3 (some g):=by
  refine⟨⟨?_,.inr ⟨N,G,c2.toArray,rfl,by rw [hN];exact hbase,g3,hGn,hGm,?_,?_⟩⟩,⟨?_,?_,?_,by omega,fun k hk _=>b3 k (by omega)⟩⟩
  ·rw [ZaD Zbj,Zjd ps r i (by omega)];omega
  ·rw [hc2,hc1t];simp only [List.size_toArray,YAO,YAj,hc1l,hD,hRl,hAl];omega
  ·rw [Zg3,hc2,hc1t];exact Zb6 (by rw [hAl,hRl,hD];omega)
  ·rw [hW3,hW2,hW1];rfl
  ·rw [hW3,hW2,hW1];rfl
  ·rw [hW3,hW2,hW1];rfl
 have hz1:¬((m:Int)=0):=by omega
 have hz2:¬((i:Int)=(n:Int)):=by omega
 have hz3:(cap:Int)<(n:Int)+(m:Int):=by omega
 have hw1:IntKind.i64.wrap ((i:Int)+(m:Int))=(i:Int)+(m:Int):=by rw [IntKind.wrap_i64];omega
 have hw2:IntKind.i64.wrap ((n:Int)+(m:Int))=(n:Int)+(m:Int):=by rw [IntKind.wrap_i64];omega
 have hw3:IntKind.i64.wrap ((n:Int)+(m:Int)-(i:Int))=(n:Int)+(m:Int)-(i:Int):=by rw [IntKind.wrap_i64];omega
 have hb1:(0:Int)<=(i:Int)+(m:Int):=by omega
 have hin:i<=n:=by omega
 have htn:((i:Int)+(m:Int)).toNat=i+m:=by omega
 have hb3:(i:Int)<=(n:Int):=by omega
 have hGi:¬(G=i):=by omega
 have hGim:¬(G=i+m):=by omega
 have hci:¬(cap=i):=by omega
 have hG63:G<=9223372036854775807:=by unfold maxLen at hGm;omega
 have HD:=hide hfin;have HNW:=hide hN;have HA:=hide hrz;have HC1:=hide hcpA;have HC2:=hide hcpB0;have mixed:Tryz.prog.follows .mixedOrders=true:=by kernel_rfl
 clear hfin hrz hcpA hcpB0 hrz0 g1 g2 g3 b1 b2 b3 s1 s2 s3 hW1 hW2 hW3 hc1 hc2 hc1l hc1t hROW hRs hRt hold hcellw hkk hik hN hG hGm hD hAl hRl hnl htk hcs hg hrow hvb hone hr1 hsz hi0 hz0 hzs hzb hm hnp
 go_enter Tryz.func246,Tryz.ntmps246
 go_wp2_with (first
  | (at_builtin;refine Lib.wpList_append_run _ rfl _ _ _ _ rfl _ _ rfl rfl _ _ (HA _) ?_)
  | (refine wpList_copy_runI _ rfl _ _ 187 187 rfl (.slice (some (U N (i*3))) (n+m-i) (G-i)) (.slice (some (U vb 0)) m 1) rfl rfl (HC1 3 (G-i)) ?_))
 go_region_law_o (refine step_copy_runI rfl _ _ 187 187 rfl (.slice (some (U N ((i+m)*3))) (n+m-(i+m)) (G-(i+m))) (.slice (some (U g (i*3))) (n-i) (cap-i)) (by simp [Act.eval,Act.put]) (by simp [Act.eval,Act.put]) (HC2 (G-(i+m)) (cap-i)) ?_)
 go_wp2;go_ret;exact⟨_,rfl,HD.out.1,HD.out.2,.inr (by rw [<-HNW.out];rfl)⟩
theorem Zni (base g cap n m i vb:Nat)(ps:List RP)(r:RP)(w:World)(hnp:n=ps.length)(hm:m=1) (hrow:w.ownsRow base 39 8 (.slice (some (U g 0)) n cap) n (flat encP ps)) (hi:i<n) (hroom:n+m<=cap)
  (hvb:w.heap[vb]? = some (.cells (encP r).toArray 39 (0,0))) (hne:vb≠g) (hone:∀ p∈ps,∃ a k c,p.2=.slice a k c) (hr1:∀ u∈encP r,u.oneCell'=true):
  Calls Tryz.prog 191 #[.slice (some (U g 0)) n cap,M (i:Int),.slice (some (U vb 0)) m 1] w fun e w'=>∃ v,e=.returned v/\w'.ownsRow base 39 8 v (n+m) (flat encP (ps.take i++[r]++ps.drop i))/\w.grownBy w' (some g)/\(v.ownBlock=some g\/v.ownBlock=some w.heap.size):=by
 have hnl:(flat encP ps).length=n*8:=hrow.1;have hui:=Tryz.underlying96;have hus:=Tryz.underlying29;obtain⟨i0,hi0,hz0,hzs,hzb⟩:=info_parts Tryz.infoRec;have hsz:(Tryz.prog.info? 39).map (·.size)=some 8:=by rw [hi0];simp [hzs]
 rcases hrow.2 with ⟨h0,_⟩ | ⟨g',cap',cur,hv,hbg,hg,hnc,hcm,hcs,htk⟩
 ·simp at h0
 simp at hv;obtain⟨rfl,rfl⟩:=hv;have hmx:maxLen=9223372036854775807\/maxLen<=9223372036854775807:=by unfold maxLen;omega
 have hc63:cap<=9223372036854775807:=by omega
 have hD:(flat encP (ps.drop i)).length=(n-i)*8:=by rw [ZaD Zax,YAj, <-hnp]
 have hclen:cur.toList.length=cap*8:=by simpa using hcs
 have hRl:(encP r).length=8:=Zax r;have hov:∀ lb cb,(callFunc 230 #[.slice (some (U vb 0)) m 1,.slice (some (U g ((i+m)*8))) lb cb]).run Tryz.prog w=.ok (.value (.bool false)) w:=fun lb cb=>by
  rw [run_callFunc_extern Tryz.func230 (by kernel_rfl) (by kernel_rfl) (by kernel_rfl) (e:=Extern.SlicesOverlaps.overlaps #[29,29] #[4]) (by kernel_rfl),
   Lib.run_overlaps_apart w 29 4 39 hus 8 (by intro w;simp [Go.sizeOf,typeInfo,hi0,hzs]) (U vb 0) (U g ((i+m)*8)) m 1 lb cb hne 39 39 8 cur.size (by simp [World.shape?,hvb,hRl]) (by simp [World.shape?,hg]) (by omega) (Zae hvb 0) (Zae hvb 8)]
  rfl
 have hcell:∀ (W:World),W.heap=w.heap->∀ j u,(flat encP (ps.drop i))[j]? = some u->W.cell? (((U g (i*8)):Addr).add j)=some u:=fun W hW j u hj=>by
  rw [add8];simp only [World.cell?,hW,hg];rw [<-ZfH ps i (by omega), <-htk,List.getElem?_drop] at hj;have h2:i*8+j<n*8:=by
   have h3:=(YAD.1 hj).1;rw [YAS] at h3;omega
  rw [YAo h2] at hj;simpa using hj
 have hcp1:∀ (W:World),W.heap=w.heap->∀ ty dc sc,(Builtin.copy_ #[96,96] ty #[.slice (some (U g ((i+m)*8))) (n+m-(i+m)) dc,.slice (some (U g (i*8))) (n+m-i) sc]).run Tryz.prog W=.ok (goInt (Nat.min (n+m-i) (n+m-(i+m)))) (W.setRow g (cur.toList.take ((i+m)*8)++flat encP (ps.drop i)++cur.toList.drop ((i+m)*8+(flat encP (ps.drop i)).length)).toArray):=fun W hW ty dc sc=>
  ZaY W 96 96 ty 39 g ((i+m)*8) (n+m-(i+m)) dc (U g (i*8)) (n+m-i) sc 8 cur 39 (flat encP (ps.drop i)) hui hsz (by rw [hW];exact hg)
   (by rw [hD];congr 1;have:Nat.min (n+m-i) (n+m-(i+m))=n+m-(i+m):=Nat.min_eq_right (by omega);omega) (hcell W hW) (by rw [hD];omega) (Zds _ (fun p hp=>hone p (List.mem_of_mem_drop hp)))
 obtain⟨c1,hc1⟩:∃ c1,c1=cur.toList.take ((i+m)*8)++flat encP (ps.drop i)++cur.toList.drop ((i+m)*8+(flat encP (ps.drop i)).length):=⟨_,rfl⟩;rw [<-hc1] at hcp1;have hc1l:c1.length=cap*8:=by rw [hc1];simp only [YAO,YAS,YAj,hclen,hD];omega
 have hcp2:∀ (W:World),W.heap=(w.setRow g c1.toArray).heap->∀ ty dc,(Builtin.copy_ #[96,29] ty #[.slice (some (U g (i*8))) (n+m-i) dc,.slice (some (U vb 0)) m 1]).run Tryz.prog W=.ok (goInt (Nat.min m (n+m-i))) (W.setRow g (c1.take (i*8)++encP r++c1.drop (i*8+(encP r).length)).toArray):=fun W hW ty dc=>by
  have h:=ZaY (P:=Tryz.prog) W 96 29 ty 39 g (i*8) (n+m-i) dc (U vb 0) m 1 8 c1.toArray 39 (encP r) hui hsz (by rw [hW];exact setRow_heap w g cur _ 39 _ hg)
   (by rw [hRl];have:Nat.min m (n+m-i)=m:=YAR (by omega);omega) (fun j u hj=>by
    rw [add8];simp only [World.cell?,hW];rw [setRow_other w g vb _ hne,hvb];simpa using hj) (by rw [hRl];simp only [List.size_toArray,hc1l];omega) hr1
  simpa using h
 have hfin:c1.take (i*8)++encP r++c1.drop (i*8+(encP r).length)=flat encP (ps.take i)++encP r++flat encP (ps.drop i)++cur.toList.drop (i*8+8+(n-i)*8):=by
  have h:=ZpF cur.toList (flat encP (ps.drop i)) (encP r) (i*8) ((n-i)*8) hD hRl (by omega);rw [show i*8+8=(i+m)*8 by omega, <-hc1] at h;rw [h];congr 3
  ·rw [<-Zee ps i (by omega), <-htk,List.take_take,YAR (by omega)]
  ·omega
 have hdone:∀ W:World,W.heap=((w.setRow g c1.toArray).setRow g (c1.take (i*8)++encP r++c1.drop (i*8+(encP r).length)).toArray).heap->W.os=w.os->W.tape=w.tape->W.output=w.output->W.ownsRow base 39 8 (.slice (some (U g 0)) (n+m) cap) (n+m) (flat encP (ps.take i++[r]++ps.drop i))/\w.grownBy W (some g)/\((Value.slice (some (U g 0)) (n+m) cap).ownBlock=some g\/(Value.slice (some (U g 0)) (n+m) cap).ownBlock=some w.heap.size):=by
  intro W hW h1 h2 h3;have hAl:(flat encP (ps.take i)).length=i*8:=by rw [ZaD Zax,YAS,YAR (by omega)]
  refine⟨⟨?_,.inr ⟨g,cap,(flat encP (ps.take i)++encP r++flat encP (ps.drop i)++cur.toList.drop (i*8+8+(n-i)*8)).toArray,rfl,hbg,?_,hroom,hcm,?_,?_⟩⟩,⟨h1,h2,h3,?_,?_⟩,.inl rfl⟩
  ·rw [ZaD Zax,Zg9 ps r i (by omega)];omega
  ·rw [hW,hfin];exact setRow_heap _ g c1.toArray _ 39 _ (setRow_heap w g cur _ 39 _ hg)
  ·simp only [List.size_toArray,YAO,YAj,hclen,hD,hRl,hAl];omega
  ·rw [ZeA];exact Zb6 (by rw [hAl,hRl,hD];omega)
  ·rw [hW];simp
  ·intro k _ hk;have hkg:k≠g:=fun e=>hk (by rw [e]);rw [hW,setRow_other _ g k _ hkg,setRow_other _ g k _ hkg]
 have hz1:¬((m:Int)=0):=by omega
 have hz2:¬((i:Int)=(n:Int)):=by omega
 have hw1:IntKind.i64.wrap ((i:Int)+(m:Int))=(i:Int)+(m:Int):=by rw [IntKind.wrap_i64];omega
 have hw2:IntKind.i64.wrap ((n:Int)+(m:Int))=(n:Int)+(m:Int):=by rw [IntKind.wrap_i64];omega
 have hb1:(0:Int)<=(i:Int)+(m:Int):=by omega
 have hin:i<=n:=by omega
 have htn:((i:Int)+(m:Int)).toNat=i+m:=by omega
 have htn2:((n:Int)+(m:Int)).toNat=n+m:=by omega
 have hb2:¬(cap=i+m):=by omega
 have hb3:(i:Int)<=(n:Int)+(m:Int):=by omega
 have hb4:¬(cap=i):=by omega
 have hb5:¬((cap:Int)<(n:Int)+(m:Int)):=by omega
 have HD:=hide hdone;have HC1:=hide (hcp1 w.drew rfl);have mixed:Tryz.prog.follows .mixedOrders=true:=by kernel_rfl
 have HC2:=hide (hcp2 (w.drew.setRow g c1.toArray) rfl);have HOV:=hide hov;clear hdone hcp1 hcp2 hfin hc1 hcell hD hclen hRl hnl hov hc1l htk hcs hg hrow hvb hone hr1 hmx hsz hi0 hz0 hzs hzb hm hnp
 go_enter Tryz.func191,Tryz.ntmps191
 go_wp2_with (simp only [HOV.out])
 go_region_law_o (refine step_copy_runI rfl _ _ 96 96 rfl (.slice (some (U g ((i+m)*8))) (n+m-(i+m)) (cap-(i+m))) (.slice (some (U g (i*8))) (n+m-i) (cap-i)) (by simp [Act.eval,Act.put]) (by simp [Act.eval,Act.put]) (HC1 3 (cap-(i+m)) (cap-i)) ?_)
 go_wp2_with (refine wpList_copy_runI _ rfl _ _ 96 29 rfl (.slice (some (U g (i*8))) (n+m-i) (cap-i)) (.slice (some (U vb 0)) m 1) rfl rfl (HC2 3 (cap-i)) ?_)
 go_ret;exact⟨_,rfl,HD _ (by rw [<-YAW];rfl) rfl rfl rfl⟩
theorem Zhx (base n m vb:Nat)(v:Value)(ps:List RP)(r:RP)(w:World)(hnp:n=ps.length)(hm:m=1)(hbase:base<=w.heap.size)(hn:n<=1048576)(hrow:w.ownsRow base 39 8 v n (flat encP ps))
  (hvb:w.heap[vb]? = some (.cells (encP r).toArray 39 (0,0))) (hr1:∀ u∈encP r,u.oneCell'=true):∃ v' w',(∀ ty,(Builtin.append_ #[96,29] ty #[v,.slice (some (U vb 0)) m 1]).run Tryz.prog w=.ok v' w')/\w'.ownsRow base 39 8 v' (n+m) (flat encP (ps.take n++[r]++ps.drop n))/\w.grownBy w' v.ownBlock/\(v'.ownBlock=v.ownBlock\/v'.ownBlock=some w.heap.size):=by
 obtain⟨i0,hi0,hz0,hzs,hzb⟩:=info_parts Tryz.infoRec;obtain⟨a,c,hv⟩:=Zac hrow;obtain⟨v',w',h1,h2,h3,_,h4⟩:=run_append_own_at (P:=Tryz.prog) w base 96 96 39 i0 _ 8 i0.bytes Tryz.underlying96 hi0 hz0 hzs rfl rfl (by omega) v n (flat encP ps) hrow (U vb 0) m 1 (encP r) (by rw [Zax,hm]) (fun j u hj=>by
  rw [add8,Nat.zero_add,Zaa hvb];simpa using hj) hr1 (by unfold maxLen;omega) (by rw [hzb];omega) hbase
 refine⟨v',w',fun ty=>?_,?_,h3,h4⟩
 ·rw [hv,Zd9 w 96 29 ty 39 i0 Tryz.underlying96 Tryz.underlying29 hi0, <-hv];exact h1
 ·rw [ZeA,hnp,YAf,List.drop_length];rw [hnp] at h2;simpa [flat] using h2
theorem ZqD (base n m vb:Nat)(v:Value)(ps:List RP)(r:RP)(w:World)(hnp:n=ps.length)(hm:m=1)(hbase:base<=w.heap.size)(hn:n<=1048576)(hrow:w.ownsRow base 39 8 v n (flat encP ps))
  (hvb:w.heap[vb]? = some (.cells (encP r).toArray 39 (0,0))) (hr1:∀ u∈encP r,u.oneCell'=true):
  Calls Tryz.prog 191 #[v,M (n:Int),.slice (some (U vb 0)) m 1] w fun e w'=>∃ v',e=.returned v'/\w'.ownsRow base 39 8 v' (n+m) (flat encP (ps.take n++[r]++ps.drop n))/\w.grownBy w' v.ownBlock/\(v'.ownBlock=v.ownBlock\/v'.ownBlock=some w.heap.size):=by
 obtain⟨v',w',h1,h2,h3,h4⟩:=Zhx base n m vb v ps r w hnp hm hbase hn hrow hvb hr1;obtain⟨va,vc,hve⟩:=Zac h2;subst hve;have HR:=hide h1;generalize ps.take n++[r]++ps.drop n=l at *;have H2:=hide h2;have H3:=hide h3;have H4:=hide h4;have hz1:¬((m:Int)=0):=by omega
 clear h1 h2 h3 h4 hvb hr1 hm hnp;rcases hrow.2 with ⟨h0,hn0⟩ | ⟨g,cap,cur,hv,hbg,hg,hnc,hcm,hcs,htk⟩
 ·subst h0;clear hrow;subst hn0
  go_enter Tryz.func191,Tryz.ntmps191
  go_wp2_with (at_builtin;refine Lib.wpList_append_run _ rfl _ _ _ _ rfl _ _ rfl rfl _ _ (HR _) ?_)
  go_ret;exact⟨_,rfl,(by simpa using H2.out),H3.out,(by simpa [Value.ownBlock] using H4.out)⟩
 ·subst hv;have hc63:cap<=9223372036854775807:=by unfold maxLen at hcm;omega
  clear hrow hg hcs htk
  go_enter Tryz.func191,Tryz.ntmps191
  go_wp2_with (at_builtin;refine Lib.wpList_append_run _ rfl _ _ _ _ rfl _ _ rfl rfl _ _ (HR _) ?_)
  all_goals (go_ret;exact⟨_,rfl,H2,H3,H4⟩)
theorem ZoU (base g cap n m i vb:Nat)(ps:List RP)(r:RP)(w:World)(hnp:n=ps.length)(hm:m=1)(hbase:base<=w.heap.size)(hn:n<=1048576) (hrow:w.ownsRow base 39 8 (.slice (some (U g 0)) n cap) n (flat encP ps)) (hi:i<n) (hroom:cap<n+m)
  (hvb:w.heap[vb]? = some (.cells (encP r).toArray 39 (0,0))) (hone:∀ p∈ps,∃ a k c,p.2=.slice a k c) (hr1:∀ u∈encP r,u.oneCell'=true):
  Calls Tryz.prog 191 #[.slice (some (U g 0)) n cap,M (i:Int),.slice (some (U vb 0)) m 1] w fun e w'=>∃ v,e=.returned v/\w'.ownsRow base 39 8 v (n+m) (flat encP (ps.take i++[r]++ps.drop i))/\w.grownBy w' (some g)/\(v.ownBlock=some g\/v.ownBlock=some w.heap.size):=by
 have hnl:(flat encP ps).length=n*8:=hrow.1;have hui:=Tryz.underlying96;have hus:=Tryz.underlying29;obtain⟨i0,hi0,hz0,hzs,hzb⟩:=info_parts Tryz.infoRec;have hsz:(Tryz.prog.info? 39).map (·.size)=some 8:=by rw [hi0];simp [hzs]
 rcases hrow.2 with ⟨h0,_⟩ | ⟨g',cap',cur,hv,hbg,hg,hnc,hcm,hcs,htk⟩
 ·simp at h0
 simp at hv;obtain⟨rfl,rfl⟩:=hv;have hc63:cap<=9223372036854775807:=by unfold maxLen at hcm;omega
 have hgw:=Zab hg;have hvw:=Zab hvb;have hD:(flat encP (ps.drop i)).length=(n-i)*8:=by rw [ZaD Zax,YAj, <-hnp]
 have hAl:(flat encP (ps.take i)).length=i*8:=by rw [ZaD Zax,YAS,YAR (by omega)]
 have hRl:(encP r).length=8:=Zax r;have hkk:(n:Int)+(m:Int)-(i:Int)=((n+m-i:Nat):Int):=by omega
 have hik:i+(n+m-i)=n+m:=by omega
 have hcellw:∀ (j:Nat) (u:Value),(flat encP ps)[j]? = some u->w.cell? (U g j)=some u:=fun j u hj=>by
  have h2:j<n*8:=by rw [<-hnl];exact (YAD.1 hj).1
  rw [<-htk,YAo h2] at hj;rw [Zaa hg];simpa using hj
 have hold:(Builtin.firstCells i0.size i (.slice (some (U g 0)) i cap)).run Tryz.prog w.drew=.ok (flat encP (ps.take i)).toArray w.drew:=by
  rw [hzs];exact run_firstCells_some w.drew 8 i (U g 0) i cap (flat encP (ps.take i)) hAl (fun j v hj=>by
   rw [add8,Nat.zero_add];refine hcellw j v ?_;rw [<-Zee ps i (by omega),List.getElem?_take] at hj
   split at hj
   ·exact hj
   ·cases hj)
 have hrz0:=Lib.run_append_grow_zeros (P:=Tryz.prog) w 96 3 96 39 i0 _ .i64 .i64 hui Tryz.underlying3 hi0 hz0 (some (U g 0)) i cap (flat encP (ps.take i)) hold (n+m-i) (by omega) (by rw [hzs];omega) (by omega) (by omega) (by rw [hzb];omega) (by rw [hzb,hik];exact growslice_fits hroom (by omega));rw [hik] at hrz0;have hGn:=grownCap_ge w (n+m) cap 39;have hGm:=grownCap_le_maxLen w (n+m) cap 39 (by unfold maxLen;omega);obtain⟨G,hG⟩:∃ G,G=grownCap w (n+m) cap 39:=⟨_,rfl⟩;rw [<-hG] at hrz0 hGn hGm;obtain⟨ROW,hROW⟩:∃ ROW:Array Value,ROW=(flat encP (ps.take i)).toArray++Builtin.zeroCells (Value.agg (recC Zbf (.slice none 0 0))).cells (n+m-i)++Builtin.zeroCells (Value.agg (recC Zbf (.slice none 0 0))).cells (G-(n+m)):=⟨_,rfl⟩;rw [<-hROW] at hrz0;have hRs:ROW.size=G*8:=by
  rw [hROW];simp only [Array.size_append,List.size_toArray,size_zeroCells,hAl,show (Value.agg (recC Zbf (.slice none 0 0))).cells.size=8 from rfl];omega
 have hRt:ROW.toList.take (i*8)=flat encP (ps.take i):=by
  rw [hROW];simp only [Array.toList_append,YAW];rw [<-hAl];exact List.take_left
 obtain⟨N,hN⟩:∃ N,N=w.heap.size:=⟨_,rfl⟩;obtain⟨W1,hW1⟩:∃ W1,W1=w.drew.alloc (.cells ROW 39):=⟨_,rfl⟩;rw [<-hW1, <-hN] at hrz0;have hrz:∀ ty,(Builtin.append_ #[96,3] ty #[.slice (some (U g 0)) i cap,M ((n:Int)+(m:Int)-(i:Int))]).run Tryz.prog w=.ok (.slice (some (U N 0)) (n+m) G) W1:=fun ty=>by
  rw [hkk];exact hrz0
 have g1:W1.heap[N]? = some (.cells ROW 39 (0,0)):=by rw [hW1,hN];exact YAE w.drew _
 have b1:∀ k,k<N->W1.heap[k]? = w.heap[k]? := fun k hk=>by rw [hW1];exact YAL _ _ _ (by rw [hN] at hk;exact hk)
 have s1:W1.heap.size=N+1:=by rw [hW1,hN];simp
 have hcpA:∀ ty dc,(Builtin.copy_ #[96,29] ty #[.slice (some (U N (i*8))) (n+m-i) dc,.slice (some (U vb 0)) m 1]).run Tryz.prog W1=.ok (goInt (Nat.min m (n+m-i))) (W1.setRow N (ROW.toList.take (i*8)++encP r++ROW.toList.drop (i*8+(encP r).length)).toArray):=fun ty dc=>
  ZaY W1 96 29 ty 39 N (i*8) (n+m-i) dc (U vb 0) m 1 8 ROW 39 (encP r) hui hsz g1
   (by rw [hRl];have:Nat.min m (n+m-i)=m:=YAR (by omega);omega) (fun j u hj=>by
    rw [add8,Nat.zero_add];simp only [World.cell?];rw [b1 vb (by omega),hvb];simpa using hj) (by rw [hRl,hRs];omega) hr1
 obtain⟨c1,hc1⟩:∃ c1,c1=ROW.toList.take (i*8)++encP r++ROW.toList.drop (i*8+(encP r).length):=⟨_,rfl⟩;rw [<-hc1] at hcpA;have hc1l:c1.length=G*8:=by
  rw [hc1];simp only [YAO,YAS,YAj,Array.length_toList,hRs,hRl];omega
 have hc1t:c1.take ((i+m)*8)=flat encP (ps.take i)++encP r:=by
  rw [hc1,hRt];rw [List.take_append_of_le_length (by simp only [YAO,hAl,hRl];omega),YAP (by simp only [YAO,hAl,hRl];omega)]
 obtain⟨W2,hW2⟩:∃ W2,W2=W1.setRow N c1.toArray:=⟨_,rfl⟩;rw [<-hW2] at hcpA;have g2:W2.heap[N]? = some (.cells c1.toArray 39 (0,0)):=by rw [hW2];exact setRow_heap W1 N ROW _ 39 _ g1
 have b2:∀ k,k<N->W2.heap[k]? = w.heap[k]? := fun k hk=>by rw [hW2,setRow_other W1 N k _ (by omega)];exact b1 k hk
 have s2:W2.heap.size=N+1:=by rw [hW2];simpa using s1
 have hcpB0:=fun dc sc=>ZaY (P:=Tryz.prog) W2.drew 96 96 3 39 N ((i+m)*8) (n+m-(i+m)) dc (U g (i*8)) (n-i) sc 8 c1.toArray 39 (flat encP (ps.drop i)) hui hsz g2
   (by rw [hD];congr 1;have:Nat.min (n-i) (n+m-(i+m))=n-i:=YAR (by omega);omega) (fun j u hj=>by
    rw [add8];have h2:=hcellw (i*8+j) u (by rw [<-ZfH ps i (by omega),List.getElem?_drop] at hj;exact hj);simp only [World.cell?] at h2 |-
    rw [show W2.drew.heap[g]? = w.heap[g]? from b2 g (by omega)];exact h2) (by rw [hD];simp only [List.size_toArray,hc1l];omega) (Zds _ (fun p hp=>hone p (List.mem_of_mem_drop hp)))
 obtain⟨c2,hc2⟩:∃ c2,c2=c1.take ((i+m)*8)++flat encP (ps.drop i)++c1.drop ((i+m)*8+(flat encP (ps.drop i)).length):=⟨_,rfl⟩;simp only [<-hc2] at hcpB0;obtain⟨W3,hW3⟩:∃ W3,W3=W2.drew.setRow N c2.toArray:=⟨_,rfl⟩;rw [<-hW3] at hcpB0;have g3:W3.heap[N]? = some (.cells c2.toArray 39 (0,0)):=by rw [hW3];exact setRow_heap W2.drew N c1.toArray _ 39 _ g2
 have b3:∀ k,k<N->W3.heap[k]? = w.heap[k]? := fun k hk=>by rw [hW3,setRow_other W2.drew N k _ (by omega)];exact b2 k hk
 have s3:W3.heap.size=N+1:=by rw [hW3];simpa using s2
 have hfin:W3.ownsRow base 39 8 (.slice (some (U N 0)) (n+m) G) (n+m) (flat encP (ps.take i++[r]++ps.drop i))/\w.grownBy W3 (some g):=by
  refine⟨⟨?_,.inr ⟨N,G,c2.toArray,rfl,by rw [hN];exact hbase,g3,hGn,hGm,?_,?_⟩⟩,⟨?_,?_,?_,by omega,fun k hk _=>b3 k (by omega)⟩⟩
  ·rw [ZaD Zax,Zg9 ps r i (by omega)];omega
  ·rw [hc2,hc1t];simp only [List.size_toArray,YAO,YAj,hc1l,hD,hRl,hAl];omega
  ·rw [ZeA,hc2,hc1t];exact Zb6 (by rw [hAl,hRl,hD];omega)
  ·rw [hW3,hW2,hW1];rfl
  ·rw [hW3,hW2,hW1];rfl
  ·rw [hW3,hW2,hW1];rfl
 have hz1:¬((m:Int)=0):=by omega
 have hz2:¬((i:Int)=(n:Int)):=by omega
 have hz3:(cap:Int)<(n:Int)+(m:Int):=by omega
 have hw1:IntKind.i64.wrap ((i:Int)+(m:Int))=(i:Int)+(m:Int):=by rw [IntKind.wrap_i64];omega
 have hw2:IntKind.i64.wrap ((n:Int)+(m:Int))=(n:Int)+(m:Int):=by rw [IntKind.wrap_i64];omega
 have hw3:IntKind.i64.wrap ((n:Int)+(m:Int)-(i:Int))=(n:Int)+(m:Int)-(i:Int):=by rw [IntKind.wrap_i64];omega
 have hb1:(0:Int)<=(i:Int)+(m:Int):=by omega
 have hin:i<=n:=by omega
 have htn:((i:Int)+(m:Int)).toNat=i+m:=by omega
 have hb3:(i:Int)<=(n:Int):=by omega
 have hGi:¬(G=i):=by omega
 have hGim:¬(G=i+m):=by omega
 have hci:¬(cap=i):=by omega
 have hG63:G<=9223372036854775807:=by unfold maxLen at hGm;omega
 have HD:=hide hfin;have HNW:=hide hN;have HA:=hide hrz;have HC1:=hide hcpA;have HC2:=hide hcpB0;have mixed:Tryz.prog.follows .mixedOrders=true:=by kernel_rfl
 clear hfin hrz hcpA hcpB0 hrz0 g1 g2 g3 b1 b2 b3 s1 s2 s3 hW1 hW2 hW3 hc1 hc2 hc1l hc1t hROW hRs hRt hold hcellw hkk hik hN hG hGm hD hAl hRl hnl htk hcs hg hrow hvb hone hr1 hsz hi0 hz0 hzs hzb hm hnp
 go_enter Tryz.func191,Tryz.ntmps191
 go_wp2_with (first
  | (at_builtin;refine Lib.wpList_append_run _ rfl _ _ _ _ rfl _ _ rfl rfl _ _ (HA _) ?_)
  | (refine wpList_copy_runI _ rfl _ _ 96 29 rfl (.slice (some (U N (i*8))) (n+m-i) (G-i)) (.slice (some (U vb 0)) m 1) rfl rfl (HC1 3 (G-i)) ?_))
 go_region_law_o (refine step_copy_runI rfl _ _ 96 96 rfl (.slice (some (U N ((i+m)*8))) (n+m-(i+m)) (G-(i+m))) (.slice (some (U g (i*8))) (n-i) (cap-i)) (by simp [Act.eval,Act.put]) (by simp [Act.eval,Act.put]) (HC2 (G-(i+m)) (cap-i)) ?_)
 go_wp2;go_ret;exact⟨_,rfl,HD.out.1,HD.out.2,.inr (by rw [<-HNW.out];rfl)⟩
end Go.Proofs.YtcnjnibnecpddaaGreat
