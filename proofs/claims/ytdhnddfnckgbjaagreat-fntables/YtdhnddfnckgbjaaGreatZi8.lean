/-
  Parts.
-/
import Derived.Test.YtdhnddfnckgbjaaGreatZi7
namespace Go.Proofs.YtdhnddfnckgbjaaGreat
open Go.RowKit
set_option linter.unusedSimpArgs false
set_option linter.unusedVariables false
set_option maxRecDepth 100000
set_option maxHeartbeats 8000000
def putL (ps:List RP)(r:RP):List RP:=ps.filter (fun p=>Zat p.1 r.1)++[r]++ps.filter (fun p=>Zat r.1 p.1)
theorem Zdv {ps:List RP}{k:Nat}{p:RP}(f:RP->Bool)(h:ps[k]? = some p):(ps.take (k+1)).filter f=(ps.take k).filter f++(if f p then [p] else []):=by
 obtain⟨hk,e⟩:=YAD.1 h;rw [YAJ hk,List.filter_append,e];congr 1;by_cases hf:f p <;> simp [hf]
theorem Znx (v:Value)(ps:List RP)(hi:Nat)(r:RP)(w:World)(hv:RecsIn w hi v ps)(hhi:hi<=w.heap.size)(hn:tot ps<=1048576)(hr:ZaE w 0 hi r):
  Calls Tryz.prog 81 #[v,.agg (recC r.1 r.2)] w fun e w'=>∃ x,e=.returned x/\RecsIn w' w'.heap.size x (putL ps r)/\Below w.heap.size w w'/\∀ k,x.ownBlock=some k->w.heap.size<=k:=by
 unfold putL;have hnl:=ZcB ps;obtain⟨a1,c1,rfl⟩:=Zac hv.row;obtain⟨ra,rc,hrn⟩:=Zac hr.1;have HRN:=hide hrn;have HR:=hide hr;have HV:=hide hv;unfold recC;rw [hrn];clear hv hr hrn;have BX:Below w.heap.size w (w.alloc (.cells #[.int .i64 r.1.area,.int .i64 r.1.kind,.int .i64 r.1.owner,.int .i64 r.1.key,.int .i64 r.1.seq,.slice ra r.1.near.length rc,.int .i64 r.1.cost,.bool r.1.far] 132)):=(YAB _ _).alloc (YA _) _;have hx:=YAE w (.cells #[.int .i64 r.1.area,.int .i64 r.1.kind,.int .i64 r.1.owner,.int .i64 r.1.key,.int .i64 r.1.seq,.slice ra r.1.near.length rc,.int .i64 r.1.cost,.bool r.1.far] 132);obtain⟨w0,hw0⟩:∃ w0,w0=w.alloc (.cells #[.int .i64 r.1.area,.int .i64 r.1.kind,.int .i64 r.1.owner,.int .i64 r.1.key,.int .i64 r.1.seq,.slice ra r.1.near.length rc,.int .i64 r.1.cost,.bool r.1.far] 132):=⟨_,rfl⟩;have hs0:w0.heap.size=w.heap.size+1:=by rw [hw0];simp
 rw [<-hw0] at BX hx;have R0:=hide (YAU (e:=132) (size:=8) w0 #[] 0 (show w.heap.size+1<=w0.heap.size by omega) (by unfold maxLen;omega) (by simp));have B0:=hide (show Below w0.heap.size w0 (w0.alloc (.cells #[] 132)) from (YAB _ _).alloc (YA _) _);have HX:=hide hx;clear hx
 go_enter Tryz.func81,Tryz.ntmps81
 go_wp2;rw [<-hw0];rw [hs0] at R0;have hs0l:w.heap.size+1<=w0.heap.size:=by omega
 have hs0r:w0.heap.size<=w.heap.size+1:=by omega
 clear hs0 hw0;generalize w0.alloc (.cells #[] 132)=wL at *
 go_loopw [6,5] (fun i o wr=>∃ (k:Nat) (u:Value) (l:List RP),k<=ps.length/\i=.int .i64 k/\o=u/\Hid (l=(ps.take k).filter (fun p=>Zat p.1 r.1))/\wr.ownsRow (w.heap.size+1) 132 8 u l.length (flat encP l)/\Below w0.heap.size w0 wr) (fun i _ _=>ps.length-(intOf i).toNat)
 case atStart=>exact ⟨0,_,[],by omega,rfl,rfl,rfl,by simpa [flat] using R0.out,B0.out⟩
 case round=>
  obtain⟨k,u,l,hk,rfl,rfl,HL,hown,hnx⟩:=hrel;obtain⟨ua,uc,rfl⟩:=Zac hown;have hsz:=hnx.size;have BWR:Below w.heap.size w wr:=BX.trans (hnx.mono (by omega));have HQL:=hide (show l.length<=2097153 by rw [(HL).out];have h2:=List.length_filter_le (fun p:RP=>Zat p.1 r.1) (ps.take k);simp at h2 |-;omega);by_cases hlt:k<ps.length
  ·obtain ⟨p,hp⟩:∃ p,ps[k]? = some p:=⟨ps[k],YAA hlt⟩;have hat:=HV.out.at;obtain⟨b,off,cap',hve,hbb,c0,c1,c2,c3,c4,c5,c6,c7,hnr⟩:=hat.cells k p hp;cases hve;obtain⟨pa,pc,hpn⟩:=ZaJ.shape hnr;rw [hpn] at c5;replace c0:=(BWR.cell (YAC hbb hhi)).trans c0;replace c1:=(BWR.cell (YAC hbb hhi)).trans c1;replace c2:=(BWR.cell (YAC hbb hhi)).trans c2;replace c3:=(BWR.cell (YAC hbb hhi)).trans c3;replace c4:=(BWR.cell (YAC hbb hhi)).trans c4;replace c5:=(BWR.cell (YAC hbb hhi)).trans c5;replace c6:=(BWR.cell (YAC hbb hhi)).trans c6;replace c7:=(BWR.cell (YAC hbb hhi)).trans c7;have hxx:=(hnx.block _ (Zab HX.out)).trans HX.out;have d0:=Zaa hxx 0;have d1:=Zaa hxx 1;have d2:=Zaa hxx 2;have d3:=Zaa hxx 3;have d4:=Zaa hxx 4;have d5:=Zaa hxx 5;have d6:=Zaa hxx 6;have d7:=Zaa hxx 7;simp at d0 d1 d2 d3 d4 d5 d6 d7;have hb1:b<wr.heap.size:=by omega
   have hb2:w.heap.size<wr.heap.size:=by omega
   have hki:(0:Int)<=(k:Int):=by omega
   have hkj:(k:Int)<(ps.length:Int):=by omega
   have hq:=fun W=>Zed p.2 r.2 p.1 r.1 W;unfold recC at hq;rw [hpn,HRN.out] at hq;have hpe:p=(p.1,.slice pa p.1.near.length pc):=Prod.ext rfl hpn;obtain⟨q,hqq⟩:∃ q,q=Zat p.1 r.1:=⟨_,rfl⟩;rw [<-hqq] at hq;have HK:=hide hq;have hft:=Zdv (fun p=>Zat p.1 r.1) hp;rw [<-hqq] at hft;have HFT:=hide hft;have HPE:=hide hpe;have OW:=hide hown;clear hq hqq hp hat hxx hnr hpn hft hpe hown;cases q
   ·go_wp2
    go_region_held3 (fun W=>W.cell? ⟨b,off+k*8,none⟩=some (.int .i64 p.1.area)/\W.cell? ⟨b,off+k*8+1,none⟩=some (.int .i64 p.1.kind)/\W.cell? ⟨b,off+k*8+2,none⟩=some (.int .i64 p.1.owner)/\W.cell? ⟨b,off+k*8+3,none⟩=some (.int .i64 p.1.key)/\W.cell? ⟨b,off+k*8+4,none⟩=some (.int .i64 p.1.seq)/\W.cell? ⟨b,off+k*8+5,none⟩=some (.slice pa p.1.near.length pc)/\W.cell? ⟨b,off+k*8+6,none⟩=some (.int .i64 p.1.cost)/\W.cell? ⟨b,off+k*8+7,none⟩=some (.bool p.1.far)/\W.cell? ⟨w.heap.size,0,none⟩=some (.int .i64 r.1.area)/\W.cell? ⟨w.heap.size,1,none⟩=some (.int .i64 r.1.kind)/\W.cell? ⟨w.heap.size,2,none⟩=some (.int .i64 r.1.owner)/\W.cell? ⟨w.heap.size,3,none⟩=some (.int .i64 r.1.key)/\W.cell? ⟨w.heap.size,4,none⟩=some (.int .i64 r.1.seq)/\W.cell? ⟨w.heap.size,5,none⟩=some (.slice ra r.1.near.length rc)/\W.cell? ⟨w.heap.size,6,none⟩=some (.int .i64 r.1.cost)/\W.cell? ⟨w.heap.size,7,none⟩=some (.bool r.1.far)) (first | go_keep | (refine ⟨?_,?_,?_,?_,?_,?_,?_,?_,?_,?_,?_,?_,?_,?_,?_,?_⟩ <;> (rw [hbc.cell (by assumption)];assumption))) (first | (go_at_call 103;refine (HK.out _).mono ?_;rintro e w1 ⟨rfl,hbc⟩))
    have B1:Below w0.heap.size w0 w1:=hnx.trans ((YAB _ _).drew.trans (hbc.mono hsz));have OW1:=hide (Zad OW.out ((YAB wr.heap.size wr).drew.trans hbc) (YA _));have HFT2:=hide (show l=(ps.take (k+1)).filter (fun p=>Zat p.1 r.1) by rw [(HL).out,HFT.out];simp);go_wp2;go_roundw
    case rel=>exact ⟨k+1,_,_,by omega,by go_num,rfl,HFT2,OW1.out,B1⟩
    case measure=>simp [intOf];omega
   ·go_wp2
    go_region_held3 (fun W=>W.cell? ⟨b,off+k*8,none⟩=some (.int .i64 p.1.area)/\W.cell? ⟨b,off+k*8+1,none⟩=some (.int .i64 p.1.kind)/\W.cell? ⟨b,off+k*8+2,none⟩=some (.int .i64 p.1.owner)/\W.cell? ⟨b,off+k*8+3,none⟩=some (.int .i64 p.1.key)/\W.cell? ⟨b,off+k*8+4,none⟩=some (.int .i64 p.1.seq)/\W.cell? ⟨b,off+k*8+5,none⟩=some (.slice pa p.1.near.length pc)/\W.cell? ⟨b,off+k*8+6,none⟩=some (.int .i64 p.1.cost)/\W.cell? ⟨b,off+k*8+7,none⟩=some (.bool p.1.far)/\W.cell? ⟨w.heap.size,0,none⟩=some (.int .i64 r.1.area)/\W.cell? ⟨w.heap.size,1,none⟩=some (.int .i64 r.1.kind)/\W.cell? ⟨w.heap.size,2,none⟩=some (.int .i64 r.1.owner)/\W.cell? ⟨w.heap.size,3,none⟩=some (.int .i64 r.1.key)/\W.cell? ⟨w.heap.size,4,none⟩=some (.int .i64 r.1.seq)/\W.cell? ⟨w.heap.size,5,none⟩=some (.slice ra r.1.near.length rc)/\W.cell? ⟨w.heap.size,6,none⟩=some (.int .i64 r.1.cost)/\W.cell? ⟨w.heap.size,7,none⟩=some (.bool r.1.far)) (first | go_keep | (refine ⟨?_,?_,?_,?_,?_,?_,?_,?_,?_,?_,?_,?_,?_,?_,?_,?_⟩ <;> (rw [hbc.cell (by assumption)];assumption))) (first | (go_at_call 103;refine (HK.out _).mono ?_;rintro e w1 ⟨rfl,hbc⟩))
    have B1:Below w0.heap.size w0 w1:=hnx.trans ((YAB _ _).drew.trans (hbc.mono hsz));have OW1:=hide (Zad OW.out ((YAB wr.heap.size wr).drew.trans hbc) (YA _));have b1s:=B1.size;have m0:=(hbc.cell (p:=⟨b,off+k*8,none⟩) hb1).trans c0;have m1:=(hbc.cell (p:=⟨b,off+k*8+1,none⟩) hb1).trans c1;have m2:=(hbc.cell (p:=⟨b,off+k*8+2,none⟩) hb1).trans c2;have m3:=(hbc.cell (p:=⟨b,off+k*8+3,none⟩) hb1).trans c3;have m4:=(hbc.cell (p:=⟨b,off+k*8+4,none⟩) hb1).trans c4;have m5:=(hbc.cell (p:=⟨b,off+k*8+5,none⟩) hb1).trans c5;have m6:=(hbc.cell (p:=⟨b,off+k*8+6,none⟩) hb1).trans c6;have m7:=(hbc.cell (p:=⟨b,off+k*8+7,none⟩) hb1).trans c7;have HFT2:=hide (show l++[(p.1,.slice pa p.1.near.length pc)]=(ps.take (k+1)).filter (fun p=>Zat p.1 r.1) by rw [(HL).out,HFT.out, <-HPE.out];simp)
    go_wp2_with (first
     | (at_builtin;refine Zay Zb7 (by omega) (by omega) _ rfl _ _ 104 rfl (w.heap.size+1) 132 Tryz.underlying104 (.agg (recC Zb3 (.slice none 0 0))) rfl Tryz.infoRec _ (l) (p.1,.slice pa p.1.near.length pc) (Zci _ _ _ _) rfl (OW1.out.alloc _) ⟨w1.heap.size,0,none⟩ 1 rfl (Zak (cs:=encP (p.1,.slice pa p.1.near.length pc))) (by have:=HQL.out;omega) (by simp;omega) ?_))
    intro v' w4 hown' hgrow;obtain⟨va,vc,rfl⟩:=Zac hown';have B4:Below w0.heap.size w0 w4:=(B1.alloc b1s _).grown hgrow (by simp;omega) (fun j hj=>by have:=(OW1.out.lt j hj).1;omega);have OW4:=hide hown';clear hown' hgrow;go_wp2;go_roundw
    case rel=>exact ⟨k+1,_,_,by omega,by go_num,rfl,HFT2,by simpa using OW4.out,B4⟩
    case measure=>simp [intOf];omega
  ·have hkn:k=ps.length:=by omega
   have htk:ps.take k=ps:=by rw [hkn,YAX]
   rw [htk] at HL;have OW:=hide hown;clear hown hkn htk;have hxx:=(hnx.block _ (Zab HX.out)).trans HX.out;have d0:=Zaa hxx 0;have d1:=Zaa hxx 1;have d2:=Zaa hxx 2;have d3:=Zaa hxx 3;have d4:=Zaa hxx 4;have d5:=Zaa hxx 5;have d6:=Zaa hxx 6;have d7:=Zaa hxx 7;simp at d0 d1 d2 d3 d4 d5 d6 d7;clear hxx
   go_wp2_with (first
    | (at_builtin;refine Zay Zb7 (by omega) (by omega) _ rfl _ _ 104 rfl (w.heap.size+1) 132 Tryz.underlying104 (.agg (recC Zb3 (.slice none 0 0))) rfl Tryz.infoRec _ (l) (r.1,.slice ra r.1.near.length rc) (Zci _ _ _ _) rfl (OW.out.alloc _) ⟨wr.heap.size,0,none⟩ 1 rfl (Zak (cs:=encP (r.1,.slice ra r.1.near.length rc))) (by have:=HQL.out;omega) (by simp;omega) ?_))
   intro v' w4 hown' hgrow;obtain⟨va,vc,rfl⟩:=Zac hown';have B2:=hide ((hnx.alloc hsz _).grown hgrow (by simp;omega) (fun j hj=>by have:=(OW.out.lt j hj).1;omega));have HRE:=hide (show r=(r.1,.slice ra r.1.near.length rc) from Prod.ext rfl HRN.out);have R2:=hide hown';clear hown' hgrow HQL d0 d1 d2 d3 d4 d5 d6 d7 OW hnx hsz BWR;go_wp2
   go_loopw [7,5] (fun i o wr=>∃ (k:Nat) (u:Value) (l:List RP),k<=ps.length/\i=.int .i64 k/\o=u/\Hid (l=ps.filter (fun p=>Zat p.1 r.1)++[r]++(ps.take k).filter (fun p=>Zat r.1 p.1))/\wr.ownsRow (w.heap.size+1) 132 8 u l.length (flat encP l)/\Below w0.heap.size w0 wr) (fun i _ _=>ps.length-(intOf i).toNat)
   case atStart=>exact ⟨0,_,l++[(r.1,.slice ra r.1.near.length rc)],by omega,rfl,rfl,(hide (by rw [HL.out, <-HRE.out];simp)),by simpa using R2.out,B2.out⟩
   case round=>
    obtain⟨k,u,m,hk,rfl,rfl,HM,hown,hnx⟩:=hrel;obtain⟨ua,uc,rfl⟩:=Zac hown;have hsz:=hnx.size;have BWR:Below w.heap.size w wr:=BX.trans (hnx.mono (by omega));have HQL:=hide (show m.length<=2097153 by rw [(HM).out];have h1:=List.length_filter_le (fun p:RP=>Zat p.1 r.1) ps;have h2:=List.length_filter_le (fun p:RP=>Zat r.1 p.1) (ps.take k);simp at h1 h2 |-;omega);by_cases hlt:k<ps.length
    ·obtain ⟨p,hp⟩:∃ p,ps[k]? = some p:=⟨ps[k],YAA hlt⟩;have hat:=HV.out.at;obtain⟨b,off,cap',hve,hbb,c0,c1,c2,c3,c4,c5,c6,c7,hnr⟩:=hat.cells k p hp;cases hve;obtain⟨pa,pc,hpn⟩:=ZaJ.shape hnr;rw [hpn] at c5;replace c0:=(BWR.cell (YAC hbb hhi)).trans c0;replace c1:=(BWR.cell (YAC hbb hhi)).trans c1;replace c2:=(BWR.cell (YAC hbb hhi)).trans c2;replace c3:=(BWR.cell (YAC hbb hhi)).trans c3;replace c4:=(BWR.cell (YAC hbb hhi)).trans c4;replace c5:=(BWR.cell (YAC hbb hhi)).trans c5;replace c6:=(BWR.cell (YAC hbb hhi)).trans c6;replace c7:=(BWR.cell (YAC hbb hhi)).trans c7;have hxx:=(hnx.block _ (Zab HX.out)).trans HX.out;have d0:=Zaa hxx 0;have d1:=Zaa hxx 1;have d2:=Zaa hxx 2;have d3:=Zaa hxx 3;have d4:=Zaa hxx 4;have d5:=Zaa hxx 5;have d6:=Zaa hxx 6;have d7:=Zaa hxx 7;simp at d0 d1 d2 d3 d4 d5 d6 d7;have hb1:b<wr.heap.size:=by omega
     have hb2:w.heap.size<wr.heap.size:=by omega
     have hki:(0:Int)<=(k:Int):=by omega
     have hkj:(k:Int)<(ps.length:Int):=by omega
     have hq:=fun W=>Zed r.2 p.2 r.1 p.1 W;unfold recC at hq;rw [hpn,HRN.out] at hq;have hpe:p=(p.1,.slice pa p.1.near.length pc):=Prod.ext rfl hpn;obtain⟨q,hqq⟩:∃ q,q=Zat r.1 p.1:=⟨_,rfl⟩;rw [<-hqq] at hq;have HK:=hide hq;have hft:=Zdv (fun p=>Zat r.1 p.1) hp;rw [<-hqq] at hft;have HFT:=hide hft;have HPE:=hide hpe;have OW:=hide hown;clear hq hqq hp hat hxx hnr hpn hft hpe hown;cases q
     ·go_wp2
      go_region_held3 (fun W=>W.cell? ⟨b,off+k*8,none⟩=some (.int .i64 p.1.area)/\W.cell? ⟨b,off+k*8+1,none⟩=some (.int .i64 p.1.kind)/\W.cell? ⟨b,off+k*8+2,none⟩=some (.int .i64 p.1.owner)/\W.cell? ⟨b,off+k*8+3,none⟩=some (.int .i64 p.1.key)/\W.cell? ⟨b,off+k*8+4,none⟩=some (.int .i64 p.1.seq)/\W.cell? ⟨b,off+k*8+5,none⟩=some (.slice pa p.1.near.length pc)/\W.cell? ⟨b,off+k*8+6,none⟩=some (.int .i64 p.1.cost)/\W.cell? ⟨b,off+k*8+7,none⟩=some (.bool p.1.far)/\W.cell? ⟨w.heap.size,0,none⟩=some (.int .i64 r.1.area)/\W.cell? ⟨w.heap.size,1,none⟩=some (.int .i64 r.1.kind)/\W.cell? ⟨w.heap.size,2,none⟩=some (.int .i64 r.1.owner)/\W.cell? ⟨w.heap.size,3,none⟩=some (.int .i64 r.1.key)/\W.cell? ⟨w.heap.size,4,none⟩=some (.int .i64 r.1.seq)/\W.cell? ⟨w.heap.size,5,none⟩=some (.slice ra r.1.near.length rc)/\W.cell? ⟨w.heap.size,6,none⟩=some (.int .i64 r.1.cost)/\W.cell? ⟨w.heap.size,7,none⟩=some (.bool r.1.far)) (first | go_keep | (refine ⟨?_,?_,?_,?_,?_,?_,?_,?_,?_,?_,?_,?_,?_,?_,?_,?_⟩ <;> (rw [hbc.cell (by assumption)];assumption))) (first | (go_at_call 103;refine (HK.out _).mono ?_;rintro e w1 ⟨rfl,hbc⟩))
      have B1:Below w0.heap.size w0 w1:=hnx.trans ((YAB _ _).drew.trans (hbc.mono hsz));have OW1:=hide (Zad OW.out ((YAB wr.heap.size wr).drew.trans hbc) (YA _));have HFT2:=hide (show m=ps.filter (fun p=>Zat p.1 r.1)++[r]++(ps.take (k+1)).filter (fun p=>Zat r.1 p.1) by rw [(HM).out,HFT.out];simp);go_wp2;go_roundw
      case rel=>exact ⟨k+1,_,_,by omega,by go_num,rfl,HFT2,OW1.out,B1⟩
      case measure=>simp [intOf];omega
     ·go_wp2
      go_region_held3 (fun W=>W.cell? ⟨b,off+k*8,none⟩=some (.int .i64 p.1.area)/\W.cell? ⟨b,off+k*8+1,none⟩=some (.int .i64 p.1.kind)/\W.cell? ⟨b,off+k*8+2,none⟩=some (.int .i64 p.1.owner)/\W.cell? ⟨b,off+k*8+3,none⟩=some (.int .i64 p.1.key)/\W.cell? ⟨b,off+k*8+4,none⟩=some (.int .i64 p.1.seq)/\W.cell? ⟨b,off+k*8+5,none⟩=some (.slice pa p.1.near.length pc)/\W.cell? ⟨b,off+k*8+6,none⟩=some (.int .i64 p.1.cost)/\W.cell? ⟨b,off+k*8+7,none⟩=some (.bool p.1.far)/\W.cell? ⟨w.heap.size,0,none⟩=some (.int .i64 r.1.area)/\W.cell? ⟨w.heap.size,1,none⟩=some (.int .i64 r.1.kind)/\W.cell? ⟨w.heap.size,2,none⟩=some (.int .i64 r.1.owner)/\W.cell? ⟨w.heap.size,3,none⟩=some (.int .i64 r.1.key)/\W.cell? ⟨w.heap.size,4,none⟩=some (.int .i64 r.1.seq)/\W.cell? ⟨w.heap.size,5,none⟩=some (.slice ra r.1.near.length rc)/\W.cell? ⟨w.heap.size,6,none⟩=some (.int .i64 r.1.cost)/\W.cell? ⟨w.heap.size,7,none⟩=some (.bool r.1.far)) (first | go_keep | (refine ⟨?_,?_,?_,?_,?_,?_,?_,?_,?_,?_,?_,?_,?_,?_,?_,?_⟩ <;> (rw [hbc.cell (by assumption)];assumption))) (first | (go_at_call 103;refine (HK.out _).mono ?_;rintro e w1 ⟨rfl,hbc⟩))
      have B1:Below w0.heap.size w0 w1:=hnx.trans ((YAB _ _).drew.trans (hbc.mono hsz));have OW1:=hide (Zad OW.out ((YAB wr.heap.size wr).drew.trans hbc) (YA _));have b1s:=B1.size;have m0:=(hbc.cell (p:=⟨b,off+k*8,none⟩) hb1).trans c0;have m1:=(hbc.cell (p:=⟨b,off+k*8+1,none⟩) hb1).trans c1;have m2:=(hbc.cell (p:=⟨b,off+k*8+2,none⟩) hb1).trans c2;have m3:=(hbc.cell (p:=⟨b,off+k*8+3,none⟩) hb1).trans c3;have m4:=(hbc.cell (p:=⟨b,off+k*8+4,none⟩) hb1).trans c4;have m5:=(hbc.cell (p:=⟨b,off+k*8+5,none⟩) hb1).trans c5;have m6:=(hbc.cell (p:=⟨b,off+k*8+6,none⟩) hb1).trans c6;have m7:=(hbc.cell (p:=⟨b,off+k*8+7,none⟩) hb1).trans c7;have HFT2:=hide (show m++[(p.1,.slice pa p.1.near.length pc)]=ps.filter (fun p=>Zat p.1 r.1)++[r]++(ps.take (k+1)).filter (fun p=>Zat r.1 p.1) by rw [(HM).out,HFT.out, <-HPE.out];simp)
      go_wp2_with (first
       | (at_builtin;refine Zay Zb7 (by omega) (by omega) _ rfl _ _ 104 rfl (w.heap.size+1) 132 Tryz.underlying104 (.agg (recC Zb3 (.slice none 0 0))) rfl Tryz.infoRec _ (m) (p.1,.slice pa p.1.near.length pc) (Zci _ _ _ _) rfl (OW1.out.alloc _) ⟨w1.heap.size,0,none⟩ 1 rfl (Zak (cs:=encP (p.1,.slice pa p.1.near.length pc))) (by have:=HQL.out;omega) (by simp;omega) ?_))
      intro v' w4 hown' hgrow;obtain⟨va,vc,rfl⟩:=Zac hown';have B4:Below w0.heap.size w0 w4:=(B1.alloc b1s _).grown hgrow (by simp;omega) (fun j hj=>by have:=(OW1.out.lt j hj).1;omega);have OW4:=hide hown';clear hown' hgrow;go_wp2;go_roundw
      case rel=>exact ⟨k+1,_,_,by omega,by go_num,rfl,HFT2,by simpa using OW4.out,B4⟩
      case measure=>simp [intOf];omega
    ·have hkn:k=ps.length:=by omega
     have htk:ps.take k=ps:=by rw [hkn,YAX]
     rw [htk] at HM;have OW:=hide hown;clear hown hkn htk;go_wp2;go_ret;refine⟨_,rfl,⟨?_,fun j hj=>(OW.out.lt j hj).2,?_⟩,BWR,fun j hj=>by have:=(OW.out.lt j hj).1;omega⟩
     ·rw [<-HM.out];exact Zaf OW.out (Nat.zero_le _)
     intro q hq;have hmem:q∈ps\/q=r:=by
      rcases YAH.1 hq with h | h
      ·rcases YAH.1 h with h | h
       ·exact .inl ((YAT.1 h).1)
       ·exact .inr (by simpa using h)
      ·exact .inl ((YAT.1 h).1)
     have hno:ZaE w 0 hi q:=by
      rcases hmem with h | h
      ·exact HV.out.nears q h
      ·rw [h];exact HR.out
     exact (hno.keep (W':=wr) (fun j _ h2 _=>BWR.block j (by omega))).wide (YA _) (by omega)
theorem ZhE (v:Value)(ps:List RP)(hi:Nat)(r:RP)(w:World)(hv:RecsIn w hi v ps)(hhi:hi<=w.heap.size)(hn:tot ps<=1048576)(hr:ZaE w 0 hi r):
  Calls Tryz.prog 81 #[v,.agg (recC r.1 r.2)] w fun e w'=>∃ x,e=.returned x/\RecsIn w' w'.heap.size x (putL ps r)/\Below w.heap.size w w':=by
 refine (Znx v ps hi r w hv hhi hn hr).mono ?_;rintro e w' ⟨x,h1,h2,h3,_⟩;exact⟨x,h1,h2,h3⟩
theorem ZhV (p l:Lk):Zbg p l=decide (ordL p l<0):=by
 simp only [Zbg,ordL,orN,cmpN];grind
theorem ZiF (p l:Th):Zbh p l=decide (ordT p l<0):=by
 simp only [Zbh,ordT,orN,cmpN];grind
theorem ZkU (v:Value)(x:NetD)(w:World)(hl:x.ls.length<=1048576)(ht:x.ts.length<=1048576)(hv:ZmF w v x w.heap.size):
  Calls Tryz.prog 79 #[v] w fun e w'=>e=.returned (.bool (ZaZ x))/\Below w.heap.size w w':=by
 obtain⟨n,ls,ts⟩:=x;obtain⟨v1,v2,rfl,h1,h2⟩:=hv;simp only [] at h1 h2 hl ht |-
 obtain⟨a1,c1,rfl⟩:=h1.shape;obtain⟨a2,c2,rfl⟩:=h2.shape;obtain⟨q,hq⟩:∃ q,q=inB n 1 6:=⟨_,rfl⟩;have hin:=Zbs n 1 6;rw [<-hq] at hin;have HIN:=hide hin;have HQ:=hide hq;have H1:=hide h1;have H2:=hide h2;clear hin hq h1 h2;cases q
 ·have hno:ZaZ ⟨n,ls,ts⟩=false:=by unfold ZaZ;simp only [];rw [<-HQ.out];simp
  rw [hno];clear hno
  go_enter Tryz.func79,Tryz.ntmps79
  go_wp2_with fail
  refine (HIN.out _).mono ?_;rintro e w1 ⟨rfl,rfl⟩;go_wp2;go_ret;exact⟨rfl,(YAB _ _).alloc (YA _) _⟩
 by_cases h12:ls.length<=12
 case neg=>
  have hno:ZaZ ⟨n,ls,ts⟩=false:=by unfold ZaZ Zfe;simp only [];rw [YAo h12];simp
  rw [hno];have h12':(12:Int)<(ls.length:Int):=by omega
  clear hno
  go_enter Tryz.func79,Tryz.ntmps79
  go_wp2_with fail
  refine (HIN.out _).mono ?_;rintro e w1 ⟨rfl,rfl⟩;go_wp2;go_ret;exact⟨rfl,(YAB _ _).alloc (YA _) _⟩
 by_cases h4:ts.length<=4
 case neg=>
  have hno:ZaZ ⟨n,ls,ts⟩=false:=by unfold ZaZ Zdh;simp only [];rw [YAo h4];simp
  rw [hno];have h4':(4:Int)<(ts.length:Int):=by omega
  clear hno
  go_enter Tryz.func79,Tryz.ntmps79
  go_wp2_with fail
  refine (HIN.out _).mono ?_;rintro e w1 ⟨rfl,rfl⟩;go_wp2;go_ret;exact⟨rfl,(YAB _ _).alloc (YA _) _⟩
 have h12':¬(12:Int)<(ls.length:Int):=by omega
 have h4':¬(4:Int)<(ts.length:Int):=by omega
 have hnet:ZaZ ⟨n,ls,ts⟩=((ZcE (Zbo n) ls&&ascB ordL ls)&&(ZcE (ZdS n) ts&&ascB ordT ts)):=by
  unfold ZaZ Zfe Zdh;simp only [];rw [<-HQ.out,YAi h12,YAi h4];simp
 have HNET:=hide hnet;clear hnet HQ h12 h4
 go_enter Tryz.func79,Tryz.ntmps79
 go_wp2_with fail
 refine (HIN.out _).mono ?_;rintro e w1 ⟨rfl,rfl⟩;go_wp2
 go_loopw [3] (fun i wr=>∃ k:Nat,k<=ls.length/\i=.int .i64 k/\(∀ j,j<k->okAt (Zbo n) ls j=true)/\(∀ j,j<k->Zdp ordL ls j=true)/\Below w.heap.size w wr/\wr.heap[w.heap.size]? = some (.cells #[.int .i64 n,.slice a1 ls.length c1,.slice a2 ts.length c2] 81)) (fun i _=>ls.length-(intOf i).toNat)
 case atStart=>exact ⟨0,by omega,rfl,by omega,by omega,(YAB _ _).alloc (YA _) _,YAE w _⟩
 case round=>
  obtain⟨k,hk,rfl,hall,hasc,hnx,hx⟩:=hrel;have hxl:=Zab hx;have g0:=Zaa hx 0;have g1:=Zaa hx 1;have g2:=Zaa hx 2;simp at g0 g1 g2;have HALL:=hide hall;have HASC:=hide hasc;have HX:=hide hx;clear hall hasc hx;by_cases hlt:k<ls.length
  ·obtain ⟨l,hl⟩:∃ l,ls[k]? = some l:=⟨ls[k],YAA hlt⟩;obtain⟨b,off,cap',hve,hbb,s0,s1,s2,s3⟩:=H1.out.cells k l hl;cases hve;replace s0:=(hnx.cell hbb).trans s0;replace s1:=(hnx.cell hbb).trans s1;replace s2:=(hnx.cell hbb).trans s2;replace s3:=(hnx.cell hbb).trans s3;have hzr:=hnx.size;have hbr:b<wr.heap.size:=by omega
   have hki:(0:Int)<=(k:Int):=by omega
   have hkj:(k:Int)<(ls.length:Int):=by omega
   obtain⟨q1,hq1⟩:∃ q1,q1=Zbo n l:=⟨_,rfl⟩;have hok:=Zjs n l;rw [<-hq1] at hok;unfold lkV at hok;have HOK:=hide hok;have HAT1:=hide ((Zdd (ok:=Zbo n) hl).trans hq1.symm);have HL:=hide hl;clear hok hq1 hl;cases q1
   ·have hf:ZaZ ⟨n,ls,ts⟩=false:=by rw [HNET.out];unfold ZcE;rw [Zbk hlt HAT1.out];rfl
    have HF:=hide hf;clear hf;go_wp2;refine Zah (S:=(fun W=>W.cell? ⟨w.heap.size,0,none⟩=some (.int .i64 n)/\W.cell? ⟨w.heap.size,1,none⟩=some (.slice (some ⟨b,off,none⟩) ls.length c1)/\W.cell? ⟨b,off+k*4,none⟩=some (.int .i64 l.a)/\W.cell? ⟨b,off+k*4+1,none⟩=some (.int .i64 l.b)/\W.cell? ⟨b,off+k*4+2,none⟩=some (.int .i64 l.c)/\W.cell? ⟨b,off+k*4+3,none⟩=some (.int .i64 l.r))) (by kernel_rfl) 28 rfl ⟨g0,g1,s0,s1,s2,s3⟩ (fun ops hops hHeld=>?_)
    iterate 7 (refine TK 28 ?_;try simp only [putS])
    refine TC 7 ?_;intro K hK;go_simp;refine (HOK.out _).mono ?_;rintro e w1 ⟨rfl,hbc⟩;refine hK.out _ _ ?_ (fun hHeld2=>?_)
    ·refine ⟨?_,?_,?_,?_,?_,?_⟩ <;> (rw [hbc.cell (by assumption)];assumption)
    clear hK K
    try simp only [putS]
    iterate 2 (refine TK 28 ?_;try simp only [putS])
    iterate 17 (refine TS 28 ?_;try simp only [putS])
    refine TK 28 ?_
    try simp only [putS]
    refine wpAnyH_done (by rw [hops.out];kernel_rfl) ?_ _;clear hops ops;go_wp2;go_ret;exact⟨Zao HF.out,hnx.drew.trans (hbc.mono hnx.size)⟩
   by_cases hk0:k=0
   ·have hk1:¬(0:Int)<(k:Int):=by omega
    have hat2:Zdp ordL ls k=true:=by rw [hk0];rfl
    have HAT2:=hide hat2;clear hat2 hk0;go_wp2;refine Zah (S:=(fun W=>W.cell? ⟨w.heap.size,0,none⟩=some (.int .i64 n)/\W.cell? ⟨w.heap.size,1,none⟩=some (.slice (some ⟨b,off,none⟩) ls.length c1)/\W.cell? ⟨b,off+k*4,none⟩=some (.int .i64 l.a)/\W.cell? ⟨b,off+k*4+1,none⟩=some (.int .i64 l.b)/\W.cell? ⟨b,off+k*4+2,none⟩=some (.int .i64 l.c)/\W.cell? ⟨b,off+k*4+3,none⟩=some (.int .i64 l.r))) (by kernel_rfl) 28 rfl ⟨g0,g1,s0,s1,s2,s3⟩ (fun ops hops hHeld=>?_)
    iterate 7 (refine TK 28 ?_;try simp only [putS])
    refine TC 7 ?_;intro K hK;go_simp;refine (HOK.out _).mono ?_;rintro e w1 ⟨rfl,hbc⟩;refine hK.out _ _ ?_ (fun hHeld2=>?_)
    ·refine ⟨?_,?_,?_,?_,?_,?_⟩ <;> (rw [hbc.cell (by assumption)];assumption)
    clear hK K
    try simp only [putS]
    iterate 3 (refine TK 28 ?_;try simp only [putS])
    refine TK 28 (v:=.bool false) ?_ (hy:=by intro W hW;(try dsimp only at hW);go_simp <;> (first | with_reducible rfl | (simp;omega) | omega))
    try simp only [putS]
    refine TK 28 ?_
    try simp only [putS]
    iterate 13 (refine TS 28 ?_;try simp only [putS])
    iterate 2 (refine TK 28 ?_;try simp only [putS])
    refine wpAnyH_done (by rw [hops.out];kernel_rfl) ?_ _;clear hops ops;have B1:Below w.heap.size w w1:=hnx.drew.trans (hbc.mono hnx.size);have hx1:w1.heap[w.heap.size]? = some (.cells #[.int .i64 n,.slice (some ⟨b,off,none⟩) ls.length c1,.slice a2 ts.length c2] 81):=by rw [hbc.block _ hxl];exact HX.out
    have HX1:=hide hx1;clear hx1;go_wp2;exact⟨⟨k+1,by omega,by go_num,ZaS HALL.out HAT1.out,ZaS HASC.out HAT2.out,B1,HX1.out⟩,by simp [intOf];omega⟩
   ·obtain ⟨j,hj⟩:∃ j,k=j+1:=⟨k-1,by omega⟩;obtain⟨p,hp⟩:∃ p,ls[j]? = some p:=⟨ls[j],YAA (by omega)⟩;obtain⟨b',off',cap2,hve2,hbb2,t0,t1,t2,t3⟩:=H1.out.cells j p hp;cases hve2;replace t0:=(hnx.cell hbb).trans t0;replace t1:=(hnx.cell hbb).trans t1;replace t2:=(hnx.cell hbb).trans t2;replace t3:=(hnx.cell hbb).trans t3;obtain⟨q2,hq2⟩:∃ q2,q2=Zbg p l:=⟨_,rfl⟩;have hah:=Ze2 p l;rw [<-hq2] at hah;unfold lkV at hah;have HAH:=hide hah;have hat2:Zdp ordL ls k=q2:=by rw [hj,hq2,ZhV];exact Zc3 hp (by rw [<-hj];exact HL.out)
    have HAT2:=hide hat2;have hj1:(k:Int)-1=(j:Int):=by omega
    have hj2:(0:Int)<=(j:Int):=by omega
    have hj3:(j:Int)<(ls.length:Int):=by omega
    have hj4:(0:Int)<(k:Int):=by omega
    have hj5:IntKind.i64.wrap (j:Int)=(j:Int):=ZbF _ (by omega) (by omega);clear hah hq2 hp hat2 hj hk0 hbb2;go_wp2;refine Zah (S:=(fun W=>W.cell? ⟨w.heap.size,0,none⟩=some (.int .i64 n)/\W.cell? ⟨w.heap.size,1,none⟩=some (.slice (some ⟨b,off,none⟩) ls.length c1)/\W.cell? ⟨b,off+k*4,none⟩=some (.int .i64 l.a)/\W.cell? ⟨b,off+k*4+1,none⟩=some (.int .i64 l.b)/\W.cell? ⟨b,off+k*4+2,none⟩=some (.int .i64 l.c)/\W.cell? ⟨b,off+k*4+3,none⟩=some (.int .i64 l.r)/\W.cell? ⟨b,off+j*4,none⟩=some (.int .i64 p.a)/\W.cell? ⟨b,off+j*4+1,none⟩=some (.int .i64 p.b)/\W.cell? ⟨b,off+j*4+2,none⟩=some (.int .i64 p.c)/\W.cell? ⟨b,off+j*4+3,none⟩=some (.int .i64 p.r))) (by kernel_rfl) 28 rfl ⟨g0,g1,s0,s1,s2,s3,t0,t1,t2,t3⟩ (fun ops hops hHeld=>?_)
    iterate 7 (refine TK 28 ?_;try simp only [putS])
    refine TC 7 ?_;intro K hK;go_simp;refine (HOK.out _).mono ?_;rintro e w1 ⟨rfl,hbc⟩;refine hK.out _ _ ?_ (fun hHeld2=>?_)
    ·refine ⟨?_,?_,?_,?_,?_,?_,?_,?_,?_,?_⟩ <;> (rw [hbc.cell (by assumption)];assumption)
    clear hK K
    try simp only [putS]
    iterate 3 (refine TK 28 ?_;try simp only [putS])
    refine TK 28 (v:=.bool true) ?_ (hy:=by intro W hW;(try dsimp only at hW);go_simp <;> (first | with_reducible rfl | (simp;omega) | omega))
    try simp only [putS]
    iterate 12 (refine TK 28 ?_;try simp only [putS])
    refine TC 24 ?_;intro K hK;go_simp;refine (HAH.out _).mono ?_;rintro e w2 ⟨rfl,hbc2⟩;refine hK.out _ _ ?_ (fun hHeld3=>?_)
    ·refine ⟨?_,?_,?_,?_,?_,?_,?_,?_,?_,?_⟩ <;> (rw [hbc2.cell (YAC (by assumption) hbc.size),hbc.cell (by assumption)];assumption)
    clear hK K
    try simp only [putS]
    iterate 3 (refine TK 28 ?_;try simp only [putS])
    refine wpAnyH_done (by rw [hops.out];kernel_rfl) ?_ _;clear hops ops;have B1:Below w.heap.size w w1:=hnx.drew.trans (hbc.mono hnx.size);have B2:Below w.heap.size w w2:=B1.trans (hbc2.mono B1.size);have hx2:w2.heap[w.heap.size]? = some (.cells #[.int .i64 n,.slice (some ⟨b,off,none⟩) ls.length c1,.slice a2 ts.length c2] 81):=by rw [hbc2.block _ (YAC hxl hbc.size),hbc.block _ hxl];exact HX.out
    have HX2:=hide hx2;clear hx2;cases q2
    ·have hf:ZaZ ⟨n,ls,ts⟩=false:=by rw [HNET.out];unfold ascB;rw [Zbk hlt HAT2.out];simp
     have HF:=hide hf;clear hf;go_wp2;go_ret;exact⟨Zao HF.out,B2⟩
    ·go_wp2;exact⟨⟨k+1,by omega,by go_num,ZaS HALL.out HAT1.out,ZaS HASC.out HAT2.out,B2,HX2.out⟩,by simp [intOf];omega⟩
  ·have hnet2:ZaZ ⟨n,ls,ts⟩=(ZcE (ZdS n) ts&&ascB ordT ts):=by
    have e1:ZcE (Zbo n) ls=true:=Zbr fun i hi=>HALL.out i (by omega);have e2:ascB ordL ls=true:=Zbr fun i hi=>HASC.out i (by omega);rw [HNET.out,e1,e2];simp
   have HNET2:=hide hnet2;clear hnet2 HNET HALL HASC;obtain⟨wo,rfl⟩:∃ wo:World,wo=wr:=⟨_,rfl⟩;go_wp2;clear hlt hk
   go_loopw [4] (fun i wr=>∃ k:Nat,k<=ts.length/\i=.int .i64 k/\(∀ j,j<k->okAt (ZdS n) ts j=true)/\(∀ j,j<k->Zdp ordT ts j=true)/\Below w.heap.size w wr/\wr.heap[w.heap.size]? = some (.cells #[.int .i64 n,.slice a1 ls.length c1,.slice a2 ts.length c2] 81)) (fun i _=>ts.length-(intOf i).toNat)
   case atStart=>exact ⟨0,by omega,rfl,by omega,by omega,hnx,HX.out⟩
   case round=>
    clear hnx HX g0 g1 g2 hxl;obtain⟨k,hk,rfl,hall,hasc,hnx,hx⟩:=hrel;have hxl:=Zab hx;have g0:=Zaa hx 0;have g2:=Zaa hx 2;simp at g0 g2;have HALL:=hide hall;have HASC:=hide hasc;have HX:=hide hx;clear hall hasc hx;by_cases hlt:k<ts.length
    ·obtain ⟨l,hl⟩:∃ l,ts[k]? = some l:=⟨ts[k],YAA hlt⟩;obtain⟨b,off,cap',hve,hbb,s0,s1,s2,s3⟩:=H2.out.cells k l hl;cases hve;replace s0:=(hnx.cell hbb).trans s0;replace s1:=(hnx.cell hbb).trans s1;replace s2:=(hnx.cell hbb).trans s2;replace s3:=(hnx.cell hbb).trans s3;have hzr:=hnx.size;have hbr:b<wr.heap.size:=by omega
     have hki:(0:Int)<=(k:Int):=by omega
     have hkj:(k:Int)<(ts.length:Int):=by omega
     obtain⟨qk,hqk⟩:∃ q,q=inB l.k 1 9:=⟨_,rfl⟩;obtain⟨qo,hqo⟩:∃ q,q=inB l.o 1 n:=⟨_,rfl⟩;obtain⟨qc,hqc⟩:∃ q,q=inB l.c 1 1000:=⟨_,rfl⟩;have hok:ZdS n l=(qk&&qo&&qc):=by unfold ZdS;rw [hqk,hqo,hqc]
     have HIK:=hide (Zbs l.k 1 9);have HIO:=hide (Zbs l.o 1 n);have HIC:=hide (Zbs l.c 1 1000);rw [<-hqk] at HIK;rw [<-hqo] at HIO;rw [<-hqc] at HIC;have HAT1:=hide ((Zdd (ok:=ZdS n) hl).trans hok);have HL:=hide hl;clear hqk hqo hqc hok hl;obtain⟨wq,hwq⟩:∃ wq:World,wq=wr.alloc (.cells #[.int .i64 l.o,.int .i64 l.k,.int .i64 l.c,.bool l.f] 103):=⟨_,rfl⟩;have BW:Below w.heap.size w wq:=by rw [hwq];exact hnx.alloc hnx.size _
     have BR:Below wr.heap.size wr wq:=by rw [hwq];exact (YAB _ _).alloc (YA _) _
     have hb0:wq.heap[wr.heap.size]? = some (.cells #[.int .i64 l.o,.int .i64 l.k,.int .i64 l.c,.bool l.f] 103):=by rw [hwq];exact YAE wr _
     have hx9:wq.heap[w.heap.size]? = some (.cells #[.int .i64 n,.slice a1 ls.length c1,.slice (some ⟨b,off,none⟩) ts.length c2] 81):=by rw [hwq,YAI _ _ _ hxl];exact HX.out
     go_wp2;rw [<-hwq];have g0:=Zaa hx9 0;have g2:=Zaa hx9 2;have e0:=Zaa hb0 0;have e1:=Zaa hb0 1;have e2:=Zaa hb0 2;have e3:=Zaa hb0 3;have hxq:=Zab hx9;have hzq:=Zab hb0;have hbq:b<wq.heap.size:=by omega
     simp at g0 g2 e0 e1 e2 e3;have HX9:=hide hx9;obtain⟨z,hz⟩:∃ z,z=wr.heap.size:=⟨_,rfl⟩;rw [<-hz] at e0 e1 e2 e3 hzq |-;have HBR:=hide BR;clear hb0 hx9 hwq hz BR s0 s1 s2 s3;cases qo
     ·have hf:ZaZ ⟨n,ls,ts⟩=false:=by rw [HNET2.out];unfold ZcE;rw [Zbk hlt (HAT1.out.trans (by simp))];rfl
      have HF:=hide hf;clear hf;refine Zah (S:=(fun W=>W.cell? ⟨w.heap.size,0,none⟩=some (.int .i64 n)/\W.cell? ⟨w.heap.size,2,none⟩=some (.slice (some ⟨b,off,none⟩) ts.length c2)/\W.cell? ⟨z,0,none⟩=some (.int .i64 l.o)/\W.cell? ⟨z,1,none⟩=some (.int .i64 l.k)/\W.cell? ⟨z,2,none⟩=some (.int .i64 l.c)/\W.cell? ⟨z,3,none⟩=some (.bool l.f))) (by kernel_rfl) 33 rfl ⟨g0,g2,e0,e1,e2,e3⟩ (fun ops hops hHeld=>?_)
      iterate 4 (refine TK 33 ?_;try simp only [putS])
      refine TC 4 ?_;intro K hK;go_simp;refine (HIO.out _).mono ?_;rintro e w1 ⟨rfl,rfl⟩;refine hK.out _ _ hHeld (fun _=>?_);clear hK K
      try simp only [putS]
      iterate 2 (refine TK 33 ?_;try simp only [putS])
      iterate 4 (refine TS 33 ?_;try simp only [putS])
      iterate 2 (refine TK 33 ?_;try simp only [putS])
      iterate 4 (refine TS 33 ?_;try simp only [putS])
      iterate 2 (refine TK 33 ?_;try simp only [putS])
      iterate 13 (refine TS 33 ?_;try simp only [putS])
      refine TK 33 ?_
      try simp only [putS]
      refine wpAnyH_done (by rw [hops.out];kernel_rfl) ?_ _;clear hops ops;go_wp2;go_ret;exact⟨Zao HF.out,BW.drew⟩
     cases qk
     ·have hf:ZaZ ⟨n,ls,ts⟩=false:=by rw [HNET2.out];unfold ZcE;rw [Zbk hlt (HAT1.out.trans (by simp))];rfl
      have HF:=hide hf;clear hf;refine Zah (S:=(fun W=>W.cell? ⟨w.heap.size,0,none⟩=some (.int .i64 n)/\W.cell? ⟨w.heap.size,2,none⟩=some (.slice (some ⟨b,off,none⟩) ts.length c2)/\W.cell? ⟨z,0,none⟩=some (.int .i64 l.o)/\W.cell? ⟨z,1,none⟩=some (.int .i64 l.k)/\W.cell? ⟨z,2,none⟩=some (.int .i64 l.c)/\W.cell? ⟨z,3,none⟩=some (.bool l.f))) (by kernel_rfl) 33 rfl ⟨g0,g2,e0,e1,e2,e3⟩ (fun ops hops hHeld=>?_)
      iterate 4 (refine TK 33 ?_;try simp only [putS])
      refine TC 4 ?_;intro K hK;go_simp;refine (HIO.out _).mono ?_;rintro e w1 ⟨rfl,rfl⟩;refine hK.out _ _ hHeld (fun _=>?_);clear hK K
      try simp only [putS]
      iterate 4 (refine TK 33 ?_;try simp only [putS])
      refine TC 9 ?_;intro K hK;go_simp;refine (HIK.out _).mono ?_;rintro e w1 ⟨rfl,rfl⟩;refine hK.out _ _ hHeld (fun _=>?_);clear hK K
      try simp only [putS]
      iterate 3 (refine TK 33 ?_;try simp only [putS])
      iterate 4 (refine TS 33 ?_;try simp only [putS])
      iterate 2 (refine TK 33 ?_;try simp only [putS])
      iterate 13 (refine TS 33 ?_;try simp only [putS])
      refine TK 33 ?_
      try simp only [putS]
      refine wpAnyH_done (by rw [hops.out];kernel_rfl) ?_ _;clear hops ops;go_wp2;go_ret;exact⟨Zao HF.out,BW.drew⟩
     cases qc
     ·have hf:ZaZ ⟨n,ls,ts⟩=false:=by rw [HNET2.out];unfold ZcE;rw [Zbk hlt (HAT1.out.trans (by simp))];rfl
      have HF:=hide hf;clear hf;refine Zah (S:=(fun W=>W.cell? ⟨w.heap.size,0,none⟩=some (.int .i64 n)/\W.cell? ⟨w.heap.size,2,none⟩=some (.slice (some ⟨b,off,none⟩) ts.length c2)/\W.cell? ⟨z,0,none⟩=some (.int .i64 l.o)/\W.cell? ⟨z,1,none⟩=some (.int .i64 l.k)/\W.cell? ⟨z,2,none⟩=some (.int .i64 l.c)/\W.cell? ⟨z,3,none⟩=some (.bool l.f))) (by kernel_rfl) 33 rfl ⟨g0,g2,e0,e1,e2,e3⟩ (fun ops hops hHeld=>?_)
      iterate 4 (refine TK 33 ?_;try simp only [putS])
      refine TC 4 ?_;intro K hK;go_simp;refine (HIO.out _).mono ?_;rintro e w1 ⟨rfl,rfl⟩;refine hK.out _ _ hHeld (fun _=>?_);clear hK K
      try simp only [putS]
      iterate 4 (refine TK 33 ?_;try simp only [putS])
      refine TC 9 ?_;intro K hK;go_simp;refine (HIK.out _).mono ?_;rintro e w1 ⟨rfl,rfl⟩;refine hK.out _ _ hHeld (fun _=>?_);clear hK K
      try simp only [putS]
      iterate 5 (refine TK 33 ?_;try simp only [putS])
      refine TC 15 ?_;intro K hK;go_simp;refine (HIC.out _).mono ?_;rintro e w1 ⟨rfl,rfl⟩;refine hK.out _ _ hHeld (fun _=>?_);clear hK K
      try simp only [putS]
      iterate 3 (refine TK 33 ?_;try simp only [putS])
      iterate 13 (refine TS 33 ?_;try simp only [putS])
      refine TK 33 ?_
      try simp only [putS]
      refine wpAnyH_done (by rw [hops.out];kernel_rfl) ?_ _;clear hops ops;go_wp2;go_ret;exact⟨Zao HF.out,BW.drew⟩
     by_cases hk0:k=0
     ·have hk1:¬(0:Int)<(k:Int):=by omega
      have hat2:Zdp ordT ts k=true:=by rw [hk0];rfl
      have HAT2:=hide hat2;clear hat2 hk0;refine Zah (S:=(fun W=>W.cell? ⟨w.heap.size,0,none⟩=some (.int .i64 n)/\W.cell? ⟨w.heap.size,2,none⟩=some (.slice (some ⟨b,off,none⟩) ts.length c2)/\W.cell? ⟨z,0,none⟩=some (.int .i64 l.o)/\W.cell? ⟨z,1,none⟩=some (.int .i64 l.k)/\W.cell? ⟨z,2,none⟩=some (.int .i64 l.c)/\W.cell? ⟨z,3,none⟩=some (.bool l.f))) (by kernel_rfl) 33 rfl ⟨g0,g2,e0,e1,e2,e3⟩ (fun ops hops hHeld=>?_)
      iterate 4 (refine TK 33 ?_;try simp only [putS])
      refine TC 4 ?_;intro K hK;go_simp;refine (HIO.out _).mono ?_;rintro e w1 ⟨rfl,rfl⟩;refine hK.out _ _ hHeld (fun _=>?_);clear hK K
      try simp only [putS]
      iterate 4 (refine TK 33 ?_;try simp only [putS])
      refine TC 9 ?_;intro K hK;go_simp;refine (HIK.out _).mono ?_;rintro e w1 ⟨rfl,rfl⟩;refine hK.out _ _ hHeld (fun _=>?_);clear hK K
      try simp only [putS]
      iterate 5 (refine TK 33 ?_;try simp only [putS])
      refine TC 15 ?_;intro K hK;go_simp;refine (HIC.out _).mono ?_;rintro e w1 ⟨rfl,rfl⟩;refine hK.out _ _ hHeld (fun _=>?_);clear hK K
      try simp only [putS]
      iterate 4 (refine TK 33 ?_;try simp only [putS])
      refine TK 33 (v:=.bool false) ?_ (hy:=by intro W hW;(try dsimp only at hW);go_simp <;> (first | with_reducible rfl | (simp;omega) | omega))
      try simp only [putS]
      refine TK 33 ?_
      try simp only [putS]
      iterate 9 (refine TS 33 ?_;try simp only [putS])
      iterate 2 (refine TK 33 ?_;try simp only [putS])
      refine wpAnyH_done (by rw [hops.out];kernel_rfl) ?_ _;clear hops ops;go_wp2;exact⟨⟨k+1,by omega,by go_num,ZaS HALL.out HAT1.out,ZaS HASC.out HAT2.out,BW.drew,HX9.out⟩,by simp [intOf];omega⟩
     ·obtain ⟨j,hj⟩:∃ j,k=j+1:=⟨k-1,by omega⟩;obtain⟨p,hp⟩:∃ p,ts[j]? = some p:=⟨ts[j],YAA (by omega)⟩;obtain⟨b',off',cap2,hve2,hbb2,t0,t1,t2,t3⟩:=H2.out.cells j p hp;cases hve2;replace t0:=(BW.cell hbb).trans t0;replace t1:=(BW.cell hbb).trans t1;replace t2:=(BW.cell hbb).trans t2;replace t3:=(BW.cell hbb).trans t3;obtain⟨q2,hq2⟩:∃ q2,q2=Zbh p l:=⟨_,rfl⟩;have hah:=Ze6 p l;rw [<-hq2] at hah;unfold thV at hah;have HAH:=hide hah;have hat2:Zdp ordT ts k=q2:=by rw [hj,hq2,ZiF];exact Zc3 hp (by rw [<-hj];exact HL.out)
      have HAT2:=hide hat2;have hj1:(k:Int)-1=(j:Int):=by omega
      have hj2:(0:Int)<=(j:Int):=by omega
      have hj3:(j:Int)<(ts.length:Int):=by omega
      have hj4:(0:Int)<(k:Int):=by omega
      have hj5:IntKind.i64.wrap (j:Int)=(j:Int):=ZbF _ (by omega) (by omega);clear hah hq2 hp hat2 hj hk0 hbb2;refine Zah (S:=(fun W=>W.cell? ⟨w.heap.size,0,none⟩=some (.int .i64 n)/\W.cell? ⟨w.heap.size,2,none⟩=some (.slice (some ⟨b,off,none⟩) ts.length c2)/\W.cell? ⟨z,0,none⟩=some (.int .i64 l.o)/\W.cell? ⟨z,1,none⟩=some (.int .i64 l.k)/\W.cell? ⟨z,2,none⟩=some (.int .i64 l.c)/\W.cell? ⟨z,3,none⟩=some (.bool l.f)/\W.cell? ⟨b,off+j*4,none⟩=some (.int .i64 p.o)/\W.cell? ⟨b,off+j*4+1,none⟩=some (.int .i64 p.k)/\W.cell? ⟨b,off+j*4+2,none⟩=some (.int .i64 p.c)/\W.cell? ⟨b,off+j*4+3,none⟩=some (.bool p.f))) (by kernel_rfl) 33 rfl ⟨g0,g2,e0,e1,e2,e3,t0,t1,t2,t3⟩ (fun ops hops hHeld=>?_)
      iterate 4 (refine TK 33 ?_;try simp only [putS])
      refine TC 4 ?_;intro K hK;go_simp;refine (HIO.out _).mono ?_;rintro e w1 ⟨rfl,rfl⟩;refine hK.out _ _ hHeld (fun _=>?_);clear hK K
      try simp only [putS]
      iterate 4 (refine TK 33 ?_;try simp only [putS])
      refine TC 9 ?_;intro K hK;go_simp;refine (HIK.out _).mono ?_;rintro e w1 ⟨rfl,rfl⟩;refine hK.out _ _ hHeld (fun _=>?_);clear hK K
      try simp only [putS]
      iterate 5 (refine TK 33 ?_;try simp only [putS])
      refine TC 15 ?_;intro K hK;go_simp;refine (HIC.out _).mono ?_;rintro e w1 ⟨rfl,rfl⟩;refine hK.out _ _ hHeld (fun _=>?_);clear hK K
      try simp only [putS]
      iterate 4 (refine TK 33 ?_;try simp only [putS])
      refine TK 33 (v:=.bool true) ?_ (hy:=by intro W hW;(try dsimp only at hW);go_simp <;> (first | with_reducible rfl | (simp;omega) | omega))
      try simp only [putS]
      iterate 8 (refine TK 33 ?_;try simp only [putS])
      refine TC 29 ?_;intro K hK;go_simp;refine (HAH.out _).mono ?_;rintro e w2 ⟨rfl,hbc2⟩;refine hK.out _ _ ?_ (fun hHeld3=>?_)
      ·refine ⟨?_,?_,?_,?_,?_,?_,?_,?_,?_,?_⟩ <;> (rw [hbc2.cell (by assumption)];assumption)
      clear hK K
      try simp only [putS]
      iterate 3 (refine TK 33 ?_;try simp only [putS])
      refine wpAnyH_done (by rw [hops.out];kernel_rfl) ?_ _;clear hops ops;have B2:Below w.heap.size w w2:=BW.drew.trans (hbc2.mono BW.size);have hx2:w2.heap[w.heap.size]? = some (.cells #[.int .i64 n,.slice a1 ls.length c1,.slice (some ⟨b,off,none⟩) ts.length c2] 81):=by rw [hbc2.block _ hxq];exact HX9.out
      have HX2:=hide hx2;clear hx2;cases q2
      ·have hf:ZaZ ⟨n,ls,ts⟩=false:=by rw [HNET2.out];unfold ascB;rw [Zbk hlt HAT2.out];simp
       have HF:=hide hf;clear hf;go_wp2;go_ret;exact⟨Zao HF.out,B2⟩
      ·go_wp2;exact⟨⟨k+1,by omega,by go_num,ZaS HALL.out HAT1.out,ZaS HASC.out HAT2.out,B2,HX2.out⟩,by simp [intOf];omega⟩
    ·have hfin:ZaZ ⟨n,ls,ts⟩=true:=by
      have e1:ZcE (ZdS n) ts=true:=Zbr fun i hi=>HALL.out i (by omega);have e2:ascB ordT ts=true:=Zbr fun i hi=>HASC.out i (by omega);rw [HNET2.out,e1,e2];rfl
     have HFIN:=hide hfin;clear hfin;go_wp2;go_ret;exact⟨Zao HFIN.out,hnx⟩
end Go.Proofs.YtdhnddfnckgbjaaGreat
namespace Go.Proofs.YtdhnddfnckgbjaaGreat
open Go.RowKit
open Go.ChangeMaps (setBlock)

set_option linter.unusedVariables false
set_option linter.unusedSimpArgs false

set_option maxRecDepth 100000 in
set_option maxHeartbeats 2000000 in
theorem Zcs (x:LnD)(u:Value)(w:World):Calls Tryz.prog 17 #[.agg #[.bool x.thing,.int .i64 x.to,u]] w fun e w'=>e=.returned (kV x.thing x.to)/\Below w.heap.size w w':=by
 unfold kV
 go_enter Tryz.func17,Tryz.ntmps17
 go_wp2
 go_returns
 exact⟨rfl,ZaK _ _⟩

def Zbl:Array Oper:=#[{ dst:=some 19,op:=Go.Op.move (Go.Operand.tmp 0),type:=43,pos := "l11_table.go:74",after:=#[],guard:=none }, { dst:=some 20,op:=Go.Op.load 39 (Go.Operand.tmp 4),type:=39,pos := "l11_table.go:74",after:=#[],guard:=none }, { dst:=some 21,op:=Go.Op.call { callee:=Go.Callee.value (Go.Operand.func 17),args:=#[Go.Operand.tmp 20],argTypes:=#[39] },type:=46,pos := "l11_table.go:74",after:=#[{ on:=1,ground:=Go.Ground.data }],guard:=none }, { dst:=some 22,op:=Go.Op.move (Go.Operand.tmp 6),type:=3,pos := "l11_table.go:74",after:=#[],guard:=none }, { dst:=some 23,op:=Go.Op.load 39 (Go.Operand.tmp 4),type:=39,pos := "l11_table.go:74",after:=#[],guard:=none }, { dst:=some 24,op:=Go.Op.build 68 #[(0,Go.Operand.tmp 22),(1,Go.Operand.tmp 23)],type:=68,pos := "l11_table.go:74",after:=#[{ on:=3,ground:=Go.Ground.data }, { on:=4,ground:=Go.Ground.data }],guard:=none }, { dst:=some 25,op:=Go.Op.buildSlice 66 1 #[(0,Go.Operand.tmp 24)],type:=66,pos := "l11_table.go:74",after:=#[{ on:=5,ground:=Go.Ground.data }],guard:=none }, { dst:=none,op:=Go.Op.mapUpdate 43 (Go.Operand.tmp 19) (Go.Operand.tmp 21) (Go.Operand.tmp 25),type:=0,pos := "l11_table.go:74",after:=#[{ on:=0,ground:=Go.Ground.data }, { on:=2,ground:=Go.Ground.data }, { on:=6,ground:=Go.Ground.data }, { on:=2,ground:=Go.Ground.chain }, { on:=0,ground:=Go.Ground.phase }, { on:=1,ground:=Go.Ground.phase }, { on:=2,ground:=Go.Ground.phase }, { on:=3,ground:=Go.Ground.phase }, { on:=4,ground:=Go.Ground.phase }, { on:=5,ground:=Go.Ground.phase }, { on:=6,ground:=Go.Ground.phase }],guard:=none }]

set_option maxRecDepth 100000 in
set_option maxHeartbeats 8000000 in
theorem pm_dag {t3 t5 t7 t8 t9 t10 t11 t12 t13 t14 t15 t16 t17 t18 t19 t20 t21 t22 t23 t24 t25:Value}(q m:Nat)(x:LnD)(hv:Value)(pl:Int)(es:Array MapEntry)(clock:Nat)(ks:List (Bool × Int))(w1:World)(Q:Exit->Act->World->Prop)(ops:Array Oper)(hops:Hid (ops=Zbl))(hq:q<w1.heap.size)(hmw:m<w1.heap.size)
  (hcall:∀ W,Calls Tryz.prog 17 #[.agg #[.bool x.thing,.int .i64 x.to,hv]] W fun e w'=>e=.returned (kV x.thing x.to)/\Below W.heap.size W w')
  (HB:w1.heap[q]? = some (.cells #[.bool x.thing,.int .i64 x.to,hv] 39)) (HM:w1.heap[m]? = some (.map es clock)) (hks:es.toList.map (·.key)=ks.map (fun k=>kV k.1 k.2)) (hno:Zbe ks x.thing x.to=none)
  (hend:∀ W g1,Below w1.heap.size w1 W->W.heap[g1]? = some (.cells #[.int .i64 pl,.bool x.thing,.int .i64 x.to,hv] 68)->w1.heap.size<=g1->Q .normal { tmps:=#[.map (some m),.agg #[.bool x.thing,.int .i64 x.to,hv],.int .i64 pl,t3,.pointer (some ⟨q,0,none⟩),t5,.int .i64 pl,t7,t8,t9,t10,t11,t12,t13,t14,t15,t16,t17,t18,.map (some m),.agg #[.bool x.thing,.int .i64 x.to,hv],kV x.thing x.to,.int .i64 pl,.agg #[.bool x.thing,.int .i64 x.to,hv],.agg #[.int .i64 pl,.bool x.thing,.int .i64 x.to,hv],(.slice (some ⟨g1,0,none⟩) 1 1)],defers:=[] } (setBlock W m (.map (es.push ⟨kV x.thing x.to,(.slice (some ⟨g1,0,none⟩) 1 1),clock⟩) (clock+1)))):
  wpAnyH Tryz.prog .any ops (NoPanic Q) (fun _=>True) 8 #[false,false,false,false,false,false,false,false] { tmps:=#[.map (some m),.agg #[.bool x.thing,.int .i64 x.to,hv],.int .i64 pl,t3,.pointer (some ⟨q,0,none⟩),t5,.int .i64 pl,t7,t8,t9,t10,t11,t12,t13,t14,t15,t16,t17,t18,t19,t20,t21,t22,t23,t24,t25],defers:=[] } w1:=by
 have h22:∀ (W:World) (g1:Nat),Below w1.heap.size w1 W->W.heap[g1]? = some (.cells #[.int .i64 pl,.bool x.thing,.int .i64 x.to,hv] 68)->w1.heap.size<=g1->wpAnyH Tryz.prog .any ops (NoPanic Q) (fun _=>True) 1 #[true,true,true,true,true,true,true,false] { tmps:=#[.map (some m),.agg #[.bool x.thing,.int .i64 x.to,hv],.int .i64 pl,t3,.pointer (some ⟨q,0,none⟩),t5,.int .i64 pl,t7,t8,t9,t10,t11,t12,t13,t14,t15,t16,t17,t18,.map (some m),.agg #[.bool x.thing,.int .i64 x.to,hv],kV x.thing x.to,.int .i64 pl,.agg #[.bool x.thing,.int .i64 x.to,hv],.agg #[.int .i64 pl,.bool x.thing,.int .i64 x.to,hv],(.slice (some ⟨g1,0,none⟩) 1 1)],defers:=[] } W:=by
  intro W g1 g n1 l1;have gs:=g.size;have hb:=(g.block q hq).trans HB;refine wpAnyH_ready (rs:=[7]) (by rw [hops.out];kernel_rfl) (by simp) ?_;refine AllReadyH.cons (o:=?_) ?_ (fun K hK=>?_) ?_
  rotate_left 1
  ·rw [hops.out];unfold Zbl;simp only [getS];rfl
  ·rw [if_pos (by rfl)];have hm:=(g.block m hmw).trans HM;have hup:=Zjl W m es clock ks x.thing x.to (.slice (some ⟨g1,0,none⟩) 1 1) hm hks hno;have hE:=hend W g1 g n1 l1;go_simp;refine hK.out _ _ trivial (fun _=>?_);exact wpAnyH_done (by rw [hops.out];kernel_rfl) (NoPanic.normal hE) _
  exact AllReadyH.nil
 have h12:∀ (W:World) (g1:Nat),Below w1.heap.size w1 W->W.heap[g1]? = some (.cells #[.int .i64 pl,.bool x.thing,.int .i64 x.to,hv] 68)->w1.heap.size<=g1->wpAnyH Tryz.prog .any ops (NoPanic Q) (fun _=>True) 2 #[true,true,false,true,true,true,true,false] { tmps:=#[.map (some m),.agg #[.bool x.thing,.int .i64 x.to,hv],.int .i64 pl,t3,.pointer (some ⟨q,0,none⟩),t5,.int .i64 pl,t7,t8,t9,t10,t11,t12,t13,t14,t15,t16,t17,t18,.map (some m),.agg #[.bool x.thing,.int .i64 x.to,hv],t21,.int .i64 pl,.agg #[.bool x.thing,.int .i64 x.to,hv],.agg #[.int .i64 pl,.bool x.thing,.int .i64 x.to,hv],(.slice (some ⟨g1,0,none⟩) 1 1)],defers:=[] } W:=by
  intro W g1 g n1 l1;have gs:=g.size;have hb:=(g.block q hq).trans HB;refine wpAnyH_ready (rs:=[2]) (by rw [hops.out];kernel_rfl) (by simp) ?_;refine AllReadyH.cons (o:=?_) ?_ (fun K hK=>?_) ?_
  rotate_left 1
  ·rw [hops.out];unfold Zbl;simp only [getS];rfl
  ·rw [if_pos (by rfl)];have hpk:=hcall W;go_simp;refine hpk.mono ?_;rintro e w2 ⟨rfl,b2⟩;refine hK.out _ _ trivial (fun _=>?_);exact h22 w2 g1 (g.trans (b2.mono g.size)) ((b2.block g1 (Zab n1)).trans n1) l1
  exact AllReadyH.nil
 have h02:∀ (W:World) (g1:Nat),Below w1.heap.size w1 W->W.heap[g1]? = some (.cells #[.int .i64 pl,.bool x.thing,.int .i64 x.to,hv] 68)->w1.heap.size<=g1->wpAnyH Tryz.prog .any ops (NoPanic Q) (fun _=>True) 3 #[true,false,false,true,true,true,true,false] { tmps:=#[.map (some m),.agg #[.bool x.thing,.int .i64 x.to,hv],.int .i64 pl,t3,.pointer (some ⟨q,0,none⟩),t5,.int .i64 pl,t7,t8,t9,t10,t11,t12,t13,t14,t15,t16,t17,t18,.map (some m),t20,t21,.int .i64 pl,.agg #[.bool x.thing,.int .i64 x.to,hv],.agg #[.int .i64 pl,.bool x.thing,.int .i64 x.to,hv],(.slice (some ⟨g1,0,none⟩) 1 1)],defers:=[] } W:=by
  intro W g1 g n1 l1;have gs:=g.size;have hb:=(g.block q hq).trans HB;refine wpAnyH_ready (rs:=[1]) (by rw [hops.out];kernel_rfl) (by simp) ?_;refine AllReadyH.cons (o:=?_) ?_ (fun K hK=>?_) ?_
  rotate_left 1
  ·rw [hops.out];unfold Zbl;simp only [getS];rfl
  ·rw [if_pos (by rfl)];refine wp_load_row 39 _ rfl _ rfl 39 _ (0,0) _ hb Tryz.underlying39 rfl (by kernel_rfl) ?_;refine hK.out _ _ trivial (fun _=>?_)
   try simp only [putS]
   exact h12 W g1 g n1 l1
  exact AllReadyH.nil
 have h21:∀ (W:World) (g1:Nat),Below w1.heap.size w1 W->wpAnyH Tryz.prog .any ops (NoPanic Q) (fun _=>True) 2 #[true,true,true,true,true,true,false,false] { tmps:=#[.map (some m),.agg #[.bool x.thing,.int .i64 x.to,hv],.int .i64 pl,t3,.pointer (some ⟨q,0,none⟩),t5,.int .i64 pl,t7,t8,t9,t10,t11,t12,t13,t14,t15,t16,t17,t18,.map (some m),.agg #[.bool x.thing,.int .i64 x.to,hv],kV x.thing x.to,.int .i64 pl,.agg #[.bool x.thing,.int .i64 x.to,hv],.agg #[.int .i64 pl,.bool x.thing,.int .i64 x.to,hv],t25],defers:=[] } W:=by
  intro W g1 g;have gs:=g.size;have hb:=(g.block q hq).trans HB;refine wpAnyH_ready (rs:=[6]) (by rw [hops.out];kernel_rfl) (by simp) ?_;refine AllReadyH.cons (o:=?_) ?_ (fun K hK=>?_) ?_
  rotate_left 1
  ·rw [hops.out];unfold Zbl;simp only [getS];rfl
  ·rw [if_pos (by rfl)];go_simp;refine hK.out _ _ trivial (fun _=>?_);exact h22 _ W.heap.size (g.alloc g.size _) (YAE W _) g.size
  exact AllReadyH.nil
 have h11:∀ (W:World) (g1:Nat),Below w1.heap.size w1 W->wpAnyH Tryz.prog .any ops (NoPanic Q) (fun _=>True) 3 #[true,true,false,true,true,true,false,false] { tmps:=#[.map (some m),.agg #[.bool x.thing,.int .i64 x.to,hv],.int .i64 pl,t3,.pointer (some ⟨q,0,none⟩),t5,.int .i64 pl,t7,t8,t9,t10,t11,t12,t13,t14,t15,t16,t17,t18,.map (some m),.agg #[.bool x.thing,.int .i64 x.to,hv],t21,.int .i64 pl,.agg #[.bool x.thing,.int .i64 x.to,hv],.agg #[.int .i64 pl,.bool x.thing,.int .i64 x.to,hv],t25],defers:=[] } W:=by
  intro W g1 g;have gs:=g.size;have hb:=(g.block q hq).trans HB;refine wpAnyH_ready (rs:=[2,6]) (by rw [hops.out];kernel_rfl) (by simp) ?_;refine AllReadyH.cons (o:=?_) ?_ (fun K hK=>?_) ?_
  rotate_left 1
  ·rw [hops.out];unfold Zbl;simp only [getS];rfl
  ·rw [if_pos (by rfl)];have hpk:=hcall W;go_simp;refine hpk.mono ?_;rintro e w2 ⟨rfl,b2⟩;refine hK.out _ _ trivial (fun _=>?_);exact h21 w2 g1 (g.trans (b2.mono g.size))
  refine AllReadyH.cons (o:=?_) ?_ (fun K hK=>?_) ?_
  rotate_left 1
  ·rw [hops.out];unfold Zbl;simp only [getS];rfl
  ·rw [if_pos (by rfl)];go_simp;refine hK.out _ _ trivial (fun _=>?_);exact h12 _ W.heap.size (g.alloc g.size _) (YAE W _) g.size
  exact AllReadyH.nil
 have h01:∀ (W:World) (g1:Nat),Below w1.heap.size w1 W->wpAnyH Tryz.prog .any ops (NoPanic Q) (fun _=>True) 4 #[true,false,false,true,true,true,false,false] { tmps:=#[.map (some m),.agg #[.bool x.thing,.int .i64 x.to,hv],.int .i64 pl,t3,.pointer (some ⟨q,0,none⟩),t5,.int .i64 pl,t7,t8,t9,t10,t11,t12,t13,t14,t15,t16,t17,t18,.map (some m),t20,t21,.int .i64 pl,.agg #[.bool x.thing,.int .i64 x.to,hv],.agg #[.int .i64 pl,.bool x.thing,.int .i64 x.to,hv],t25],defers:=[] } W:=by
  intro W g1 g;have gs:=g.size;have hb:=(g.block q hq).trans HB;refine wpAnyH_ready (rs:=[1,6]) (by rw [hops.out];kernel_rfl) (by simp) ?_;refine AllReadyH.cons (o:=?_) ?_ (fun K hK=>?_) ?_
  rotate_left 1
  ·rw [hops.out];unfold Zbl;simp only [getS];rfl
  ·rw [if_pos (by rfl)];refine wp_load_row 39 _ rfl _ rfl 39 _ (0,0) _ hb Tryz.underlying39 rfl (by kernel_rfl) ?_;refine hK.out _ _ trivial (fun _=>?_)
   try simp only [putS]
   exact h11 W g1 g
  refine AllReadyH.cons (o:=?_) ?_ (fun K hK=>?_) ?_
  rotate_left 1
  ·rw [hops.out];unfold Zbl;simp only [getS];rfl
  ·rw [if_pos (by rfl)];go_simp;refine hK.out _ _ trivial (fun _=>?_);exact h02 _ W.heap.size (g.alloc g.size _) (YAE W _) g.size
  exact AllReadyH.nil
 have h20:∀ (W:World) (g1:Nat),Below w1.heap.size w1 W->wpAnyH Tryz.prog .any ops (NoPanic Q) (fun _=>True) 4 #[true,true,true,true,false,false,false,false] { tmps:=#[.map (some m),.agg #[.bool x.thing,.int .i64 x.to,hv],.int .i64 pl,t3,.pointer (some ⟨q,0,none⟩),t5,.int .i64 pl,t7,t8,t9,t10,t11,t12,t13,t14,t15,t16,t17,t18,.map (some m),.agg #[.bool x.thing,.int .i64 x.to,hv],kV x.thing x.to,.int .i64 pl,t23,t24,t25],defers:=[] } W:=by
  intro W g1 g;have gs:=g.size;have hb:=(g.block q hq).trans HB;refine wpAnyH_ready (rs:=[4]) (by rw [hops.out];kernel_rfl) (by simp) ?_;refine AllReadyH.cons (o:=?_) ?_ (fun K hK=>?_) ?_
  rotate_left 1
  ·rw [hops.out];unfold Zbl;simp only [getS];rfl
  ·rw [if_pos (by rfl)];refine wp_load_row 39 _ rfl _ rfl 39 _ (0,0) _ hb Tryz.underlying39 rfl (by kernel_rfl) ?_;refine hK.out _ _ trivial (fun _=>?_)
   try simp only [putS]
   refine Zax 5 ?_ ?_ ?_ (by rw [hops.out];kernel_rfl) ?_ ?_ trivial ?_
   rotate_left 2
   ·rw [hops.out];unfold Zbl;simp only [getS];rfl
   ·intro W hW;(try dsimp only at hW);go_simp <;> with_reducible rfl
   ·exact fun _ _ _=>id
   try simp only [putS]
   exact h21 W g1 g
  exact AllReadyH.nil
 have h10:∀ (W:World) (g1:Nat),Below w1.heap.size w1 W->wpAnyH Tryz.prog .any ops (NoPanic Q) (fun _=>True) 5 #[true,true,false,true,false,false,false,false] { tmps:=#[.map (some m),.agg #[.bool x.thing,.int .i64 x.to,hv],.int .i64 pl,t3,.pointer (some ⟨q,0,none⟩),t5,.int .i64 pl,t7,t8,t9,t10,t11,t12,t13,t14,t15,t16,t17,t18,.map (some m),.agg #[.bool x.thing,.int .i64 x.to,hv],t21,.int .i64 pl,t23,t24,t25],defers:=[] } W:=by
  intro W g1 g;have gs:=g.size;have hb:=(g.block q hq).trans HB;refine wpAnyH_ready (rs:=[2,4]) (by rw [hops.out];kernel_rfl) (by simp) ?_;refine AllReadyH.cons (o:=?_) ?_ (fun K hK=>?_) ?_
  rotate_left 1
  ·rw [hops.out];unfold Zbl;simp only [getS];rfl
  ·rw [if_pos (by rfl)];have hpk:=hcall W;go_simp;refine hpk.mono ?_;rintro e w2 ⟨rfl,b2⟩;refine hK.out _ _ trivial (fun _=>?_);exact h20 w2 g1 (g.trans (b2.mono g.size))
  refine AllReadyH.cons (o:=?_) ?_ (fun K hK=>?_) ?_
  rotate_left 1
  ·rw [hops.out];unfold Zbl;simp only [getS];rfl
  ·rw [if_pos (by rfl)];refine wp_load_row 39 _ rfl _ rfl 39 _ (0,0) _ hb Tryz.underlying39 rfl (by kernel_rfl) ?_;refine hK.out _ _ trivial (fun _=>?_)
   try simp only [putS]
   refine Zax 5 ?_ ?_ ?_ (by rw [hops.out];kernel_rfl) ?_ ?_ trivial ?_
   rotate_left 2
   ·rw [hops.out];unfold Zbl;simp only [getS];rfl
   ·intro W hW;(try dsimp only at hW);go_simp <;> with_reducible rfl
   ·exact fun _ _ _=>id
   try simp only [putS]
   exact h11 W g1 g
  exact AllReadyH.nil
 have h00:∀ (W:World) (g1:Nat),Below w1.heap.size w1 W->wpAnyH Tryz.prog .any ops (NoPanic Q) (fun _=>True) 6 #[true,false,false,true,false,false,false,false] { tmps:=#[.map (some m),.agg #[.bool x.thing,.int .i64 x.to,hv],.int .i64 pl,t3,.pointer (some ⟨q,0,none⟩),t5,.int .i64 pl,t7,t8,t9,t10,t11,t12,t13,t14,t15,t16,t17,t18,.map (some m),t20,t21,.int .i64 pl,t23,t24,t25],defers:=[] } W:=by
  intro W g1 g;have gs:=g.size;have hb:=(g.block q hq).trans HB;refine wpAnyH_ready (rs:=[1,4]) (by rw [hops.out];kernel_rfl) (by simp) ?_;refine AllReadyH.cons (o:=?_) ?_ (fun K hK=>?_) ?_
  rotate_left 1
  ·rw [hops.out];unfold Zbl;simp only [getS];rfl
  ·rw [if_pos (by rfl)];refine wp_load_row 39 _ rfl _ rfl 39 _ (0,0) _ hb Tryz.underlying39 rfl (by kernel_rfl) ?_;refine hK.out _ _ trivial (fun _=>?_)
   try simp only [putS]
   exact h10 W g1 g
  refine AllReadyH.cons (o:=?_) ?_ (fun K hK=>?_) ?_
  rotate_left 1
  ·rw [hops.out];unfold Zbl;simp only [getS];rfl
  ·rw [if_pos (by rfl)];refine wp_load_row 39 _ rfl _ rfl 39 _ (0,0) _ hb Tryz.underlying39 rfl (by kernel_rfl) ?_;refine hK.out _ _ trivial (fun _=>?_)
   try simp only [putS]
   refine Zax 5 ?_ ?_ ?_ (by rw [hops.out];kernel_rfl) ?_ ?_ trivial ?_
   rotate_left 2
   ·rw [hops.out];unfold Zbl;simp only [getS];rfl
   ·intro W hW;(try dsimp only at hW);go_simp <;> with_reducible rfl
   ·exact fun _ _ _=>id
   try simp only [putS]
   exact h01 W g1 g
  exact AllReadyH.nil
 refine Zax 0 ?_ ?_ ?_ (by rw [hops.out];kernel_rfl) ?_ ?_ trivial ?_
 rotate_left 2
 ·rw [hops.out];unfold Zbl;simp only [getS];rfl
 ·intro W hW;(try dsimp only at hW);go_simp <;> with_reducible rfl
 ·exact fun _ _ _=>id
 try simp only [putS]
 refine Zax 3 ?_ ?_ ?_ (by rw [hops.out];kernel_rfl) ?_ ?_ trivial ?_
 rotate_left 2
 ·rw [hops.out];unfold Zbl;simp only [getS];rfl
 ·intro W hW;(try dsimp only at hW);go_simp <;> with_reducible rfl
 ·exact fun _ _ _=>id
 try simp only [putS]
 exact h00 w1 0 (YAB _ _)
end Go.Proofs.YtdhnddfnckgbjaaGreat
namespace Go.Proofs.YtdhnddfnckgbjaaGreat
open Go.RowKit
set_option linter.unusedSimpArgs false
set_option linter.unusedVariables false
set_option maxRecDepth 100000
set_option maxHeartbeats 8000000
theorem Zd7 (x:LnD)(v:Value)(base:Nat)(w:World)(ho:w.ownsRow base 3 1 v x.hops.length (flat intE x.hops))(hn:x.hops.length<=1048576):
  Calls Tryz.prog 34 #[.agg (lnC x v)] w fun e w'=>∃ v',e=.returned (.agg (lnC x v'))/\w'.ownsRow w.heap.size 3 1 v' x.hops.length (flat intE x.hops)/\Below w.heap.size w w':=by
 obtain⟨va,vc,rfl⟩:=Zac ho;have HC:=hide (fun W (hb:Below w.heap.size w W)=>Zjk x.hops (.slice va x.hops.length vc) base W (Zad ho hb (YA _)) hn);clear ho
 go_enter Tryz.func34,Tryz.ntmps34
 unfold lnC
 go_wp2_with fail
 have hb0:Below w.heap.size w ((w.alloc (.cells #[.bool x.thing,.int .i64 x.to,.slice va x.hops.length vc] 39)).alloc (.cells #[.bool false,.int .i64 0,.slice none 0 0] 39)):=((YAB w.heap.size w).alloc (by simp) _).alloc (by simp) _;have q0:((w.alloc (.cells #[.bool x.thing,.int .i64 x.to,.slice va x.hops.length vc] 39)).alloc (.cells #[.bool false,.int .i64 0,.slice none 0 0] 39)).heap[w.heap.size]? = some (.cells #[.bool x.thing,.int .i64 x.to,.slice va x.hops.length vc] 39):=by
  rw [YAI _ _ _ (by simp),YAE]
 have q1:((w.alloc (.cells #[.bool x.thing,.int .i64 x.to,.slice va x.hops.length vc] 39)).alloc (.cells #[.bool false,.int .i64 0,.slice none 0 0] 39)).heap[w.heap.size+1]? = some (.cells #[.bool false,.int .i64 0,.slice none 0 0] 39):=by
  have e:=YAE (w.alloc (.cells #[.bool x.thing,.int .i64 x.to,.slice va x.hops.length vc] 39)) (.cells #[.bool false,.int .i64 0,.slice none 0 0] 39);rw [show (w.alloc (.cells #[.bool x.thing,.int .i64 x.to,.slice va x.hops.length vc] 39)).heap.size=w.heap.size+1 by simp] at e;exact e
 generalize ((w.alloc (.cells #[.bool x.thing,.int .i64 x.to,.slice va x.hops.length vc] 39)).alloc (.cells #[.bool false,.int .i64 0,.slice none 0 0] 39))=w3 at *;refine (HC.out _ hb0).mono ?_;rintro e w4 ⟨v',rfl,hown',hb4'⟩;obtain⟨na,nc,rfl⟩:=Zac hown';have hs1:=Zab q1;have hb4:Below w.heap.size w w4:=hb0.trans (hb4'.mono (by omega));have q0:=(hb4'.block _ (by omega)).trans q0;have q1:=(hb4'.block _ hs1).trans q1;have r2:=Zaa q0 2;have f0:=Zae q0;simp at r2;have q2:=YAS w4 w.heap.size 2 _ _ (.slice na x.hops.length nc) q0;simp only [YAg,YAm,YAn] at q2;have q3:(w4.setCell ⟨w.heap.size,2,none⟩ (.slice na x.hops.length nc)).heap[w.heap.size+1]? = some (.cells #[.bool false,.int .i64 0,.slice none 0 0] 39):=by
  rw [YAQ w4 ⟨w.heap.size,2,none⟩ _ _ (by show w.heap.size+1≠w.heap.size;omega)];exact q1
 have y0:=Zaa q2 0;have y1:=Zaa q2 1;have y2:=Zaa q2 2;simp at y0 y1 y2;have u0:=Zaa q3 0;have u1:=Zaa q3 1;have u2:=Zaa q3 2;simp at u0 u1 u2;have fu:=Zae q3;have F:=finL3 x (.slice na x.hops.length nc) q3;have hown2:=ZaH (j:=2) (u:=.slice na x.hops.length nc) hown' (show w.heap.size<w3.heap.size by omega);have G8:=ZlH (w4.setCell ⟨w.heap.size,2,none⟩ (.slice na x.hops.length nc)) (w.heap.size+1) x (.slice na x.hops.length nc);have hown3:=Zaf (b0:=w.heap.size) (hown2.kept G8 (by
  cases hv:(Value.slice na x.hops.length nc).ownBlock with
  | none=>exact .inl rfl
  | some g=>exact .inr (fun e=>by have:=(hown2.lt g hv).1;simp at e;omega))) (by omega)
 have hb5:Below w.heap.size w (Zl7 (w4.setCell ⟨w.heap.size,2,none⟩ (.slice na x.hops.length nc)) (w.heap.size+1) x (.slice na x.hops.length nc)):=(hb4.setCell (p:=⟨w.heap.size,2,none⟩) (YA _) _).grown G8 (by have:=Zab q3;omega) (fun k hk=>by simp at hk;omega);have FF:=hide F;have H3:=hide hown3;have H5:=hide hb5;clear F hown3 hb5 hown2 G8 hb4 hown' hb4' q0 q1 q2 q3 hb0 HC
 go_wp2_with fail
 (try simp only [Exit.inBlock,Exit.then])
 refine bodyPost_ret (results_cell_row rfl _ _ (w.heap.size+1) 39 (lnC _ _) (0,0) _ rfl FF.out Tryz.underlying39 rfl (by kernel_rfl)) rfl ?_;exact⟨_,rfl,H3.out,H5.out⟩
end Go.Proofs.YtdhnddfnckgbjaaGreat
