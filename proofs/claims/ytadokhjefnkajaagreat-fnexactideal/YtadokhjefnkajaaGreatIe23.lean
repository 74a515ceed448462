/-
  PutS HeapP
-/
import Derived.Test.YtadokhjefnkajaaGreatIe20
import Derived.Test.YtadokhjefnkajaaGreatIe5
import Derived.Test.YtadokhjefnkajaaGreatIe17
namespace Go.Proofs.YtadokhjefnkajaaGreat
open Go.RowKit
set_option linter.unusedSimpArgs false
set_option linter.unusedVariables false
set_option maxRecDepth 100000
set_option maxHeartbeats 8000000
def putL (ps:List RP)(r:RP):List RP:=ps.filter (fun p=>Zam p.1 r.1)++[r]++ps.filter (fun p=>Zam r.1 p.1)
theorem Zdu {ps:List RP}{k:Nat}{p:RP}(f:RP->Bool)(h:ps[k]? = some p):(ps.take (k+1)).filter f=(ps.take k).filter f++(if f p then [p] else []):=by
 obtain⟨hk,e⟩:=List.getElem?_eq_some_iff.1 h;rw [List.take_succ_eq_append_getElem hk,List.filter_append,e]
 congr 1
 by_cases hf:f p <;> simp [hf]
theorem ZoY (v:Value)(ps:List RP)(hi:Nat)(r:RP)(w:World)(hv:RecsIn w hi v ps)(hhi:hi<=w.heap.size)(hn:tot ps<=1048576)(hr:ZaD w 0 hi r):
  Calls Tryz.prog 64 #[v,.agg (recC r.1 r.2)] w fun e w'=>∃ x,e=.returned x/\RecsIn w' w'.heap.size x (putL ps r)/\Below w.heap.size w w'/\∀ k,x.ownBlock=some k->w.heap.size<=k:=by
 unfold putL;have hnl:=Zbh ps;obtain⟨a1,c1,rfl⟩:=Zac hv.row;obtain⟨ra,rc,hrn⟩:=Zac hr.1;have HRN:=hide hrn;have HR:=hide hr;have HV:=hide hv;unfold recC;rw [hrn];clear hv hr hrn;have BX:Below w.heap.size w (w.alloc (.cells #[.int .i64 r.1.area,.int .i64 r.1.kind,.int .i64 r.1.owner,.int .i64 r.1.key,.int .i64 r.1.seq,.slice ra r.1.near.length rc,.int .i64 r.1.cost,.bool r.1.far] 39)):=(Below.refl _ _).alloc (Nat.le_refl _) _;have hx:=heap_alloc_new w (.cells #[.int .i64 r.1.area,.int .i64 r.1.kind,.int .i64 r.1.owner,.int .i64 r.1.key,.int .i64 r.1.seq,.slice ra r.1.near.length rc,.int .i64 r.1.cost,.bool r.1.far] 39);obtain⟨w0,hw0⟩:∃ w0,w0=w.alloc (.cells #[.int .i64 r.1.area,.int .i64 r.1.kind,.int .i64 r.1.owner,.int .i64 r.1.key,.int .i64 r.1.seq,.slice ra r.1.near.length rc,.int .i64 r.1.cost,.bool r.1.far] 39):=⟨_,rfl⟩;have hs0:w0.heap.size=w.heap.size+1:=by rw [hw0];simp
 rw [<-hw0] at BX hx;have R0:=hide (World.ownsRow_lit (e:=39) (size:=8) w0 #[] 0 (show w.heap.size+1<=w0.heap.size by omega) (by unfold maxLen;omega) (by simp))
 have B0:=hide (show Below w0.heap.size w0 (w0.alloc (.cells #[] 39)) from (Below.refl _ _).alloc (Nat.le_refl _) _)
 have HX:=hide hx;clear hx
 go_enter Tryz.func64,Tryz.ntmps64
 go_wp2
 rw [<-hw0];rw [hs0] at R0;have hs0l:w.heap.size+1<=w0.heap.size:=by omega
 have hs0r:w0.heap.size<=w.heap.size+1:=by omega
 clear hs0 hw0;generalize w0.alloc (.cells #[] 39)=wL at *
 go_loopw [6,5] (fun i o wr=>∃ (k:Nat) (u:Value) (l:List RP),k<=ps.length/\i=.int .i64 k/\o=u/\Hid (l=(ps.take k).filter (fun p=>Zam p.1 r.1))/\wr.ownsRow (w.heap.size+1) 39 8 u l.length (flat encP l)/\Below w0.heap.size w0 wr) (fun i _ _=>ps.length-(intOf i).toNat)
 case atStart=>exact ⟨0,_,[],by omega,rfl,rfl,rfl,by simpa [flat] using R0.out,B0.out⟩
 case round=>
  obtain⟨k,u,l,hk,rfl,rfl,HL,hown,hnx⟩:=hrel;obtain⟨ua,uc,rfl⟩:=Zac hown;have hsz:=hnx.size;have BWR:Below w.heap.size w wr:=BX.trans (hnx.mono (by omega))
  have HQL:=hide (show l.length<=2097153 by rw [(HL).out];have h2:=List.length_filter_le (fun p:RP=>Zam p.1 r.1) (ps.take k);simp at h2 |-;omega)
  by_cases hlt:k<ps.length
  ·obtain ⟨p,hp⟩:∃ p,ps[k]? = some p:=⟨ps[k],List.getElem?_eq_getElem hlt⟩
   have hat:=HV.out.at;obtain⟨b,off,cap',hve,hbb,c0,c1,c2,c3,c4,c5,c6,c7,hnr⟩:=hat.cells k p hp;cases hve
   obtain⟨pa,pc,hpn⟩:=ZaC.shape hnr;rw [hpn] at c5;rw [<-BWR.cell (p:=⟨b,off+k*8,none⟩) (Nat.lt_of_lt_of_le hbb hhi)] at c0;rw [<-BWR.cell (p:=⟨b,off+k*8+1,none⟩) (Nat.lt_of_lt_of_le hbb hhi)] at c1;rw [<-BWR.cell (p:=⟨b,off+k*8+2,none⟩) (Nat.lt_of_lt_of_le hbb hhi)] at c2;rw [<-BWR.cell (p:=⟨b,off+k*8+3,none⟩) (Nat.lt_of_lt_of_le hbb hhi)] at c3;rw [<-BWR.cell (p:=⟨b,off+k*8+4,none⟩) (Nat.lt_of_lt_of_le hbb hhi)] at c4;rw [<-BWR.cell (p:=⟨b,off+k*8+5,none⟩) (Nat.lt_of_lt_of_le hbb hhi)] at c5;rw [<-BWR.cell (p:=⟨b,off+k*8+6,none⟩) (Nat.lt_of_lt_of_le hbb hhi)] at c6;rw [<-BWR.cell (p:=⟨b,off+k*8+7,none⟩) (Nat.lt_of_lt_of_le hbb hhi)] at c7;have hxx:=(hnx.block _ (Zab HX.out)).trans HX.out;have d0:=Zaa hxx 0;have d1:=Zaa hxx 1;have d2:=Zaa hxx 2;have d3:=Zaa hxx 3;have d4:=Zaa hxx 4;have d5:=Zaa hxx 5;have d6:=Zaa hxx 6;have d7:=Zaa hxx 7;simp at d0 d1 d2 d3 d4 d5 d6 d7
   have hb1:b<wr.heap.size:=by omega
   have hb2:w.heap.size<wr.heap.size:=by omega
   have hki:(0:Int)<=(k:Int):=by omega
   have hkj:(k:Int)<(ps.length:Int):=by omega
   have hq:=fun W=>Zeu p.2 r.2 p.1 r.1 W
   unfold recC at hq;rw [hpn,HRN.out] at hq;have hpe:p=(p.1,.slice pa p.1.near.length pc):=Prod.ext rfl hpn;obtain⟨q,hqq⟩:∃ q,q=Zam p.1 r.1:=⟨_,rfl⟩;rw [<-hqq] at hq;have HK:=hide hq;have hft:=Zdu (fun p=>Zam p.1 r.1) hp
   rw [<-hqq] at hft;have HFT:=hide hft;have HPE:=hide hpe;have OW:=hide hown;clear hq hqq hp hat hxx hnr hpn hft hpe hown;cases q
   ·go_wp2
    go_region_held3 (fun W=>W.cell? ⟨b,off+k*8,none⟩=some (.int .i64 p.1.area)/\W.cell? ⟨b,off+k*8+1,none⟩=some (.int .i64 p.1.kind)/\W.cell? ⟨b,off+k*8+2,none⟩=some (.int .i64 p.1.owner)/\W.cell? ⟨b,off+k*8+3,none⟩=some (.int .i64 p.1.key)/\W.cell? ⟨b,off+k*8+4,none⟩=some (.int .i64 p.1.seq)/\W.cell? ⟨b,off+k*8+5,none⟩=some (.slice pa p.1.near.length pc)/\W.cell? ⟨b,off+k*8+6,none⟩=some (.int .i64 p.1.cost)/\W.cell? ⟨b,off+k*8+7,none⟩=some (.bool p.1.far)/\W.cell? ⟨w.heap.size,0,none⟩=some (.int .i64 r.1.area)/\W.cell? ⟨w.heap.size,1,none⟩=some (.int .i64 r.1.kind)/\W.cell? ⟨w.heap.size,2,none⟩=some (.int .i64 r.1.owner)/\W.cell? ⟨w.heap.size,3,none⟩=some (.int .i64 r.1.key)/\W.cell? ⟨w.heap.size,4,none⟩=some (.int .i64 r.1.seq)/\W.cell? ⟨w.heap.size,5,none⟩=some (.slice ra r.1.near.length rc)/\W.cell? ⟨w.heap.size,6,none⟩=some (.int .i64 r.1.cost)/\W.cell? ⟨w.heap.size,7,none⟩=some (.bool r.1.far)) (first | go_keep | (refine ⟨?_,?_,?_,?_,?_,?_,?_,?_,?_,?_,?_,?_,?_,?_,?_,?_⟩ <;> (rw [hbc.cell (by assumption)];assumption))) (first | (go_at_call 95;refine (HK.out _).mono ?_;rintro e w1 ⟨rfl,hbc⟩))
    have B1:Below w0.heap.size w0 w1:=hnx.trans ((Below.refl _ _).drew.trans (hbc.mono hsz));have OW1:=hide (Zae OW.out ((Below.refl wr.heap.size wr).drew.trans hbc) (Nat.le_refl _));have HFT2:=hide (show l=(ps.take (k+1)).filter (fun p=>Zam p.1 r.1) by rw [(HL).out,HFT.out];simp)
    go_wp2
    go_roundw
    case rel=>exact ⟨k+1,_,_,by omega,by go_num,rfl,HFT2,OW1.out,B1⟩
    case measure=>simp [intOf];omega
   ·go_wp2
    go_region_held3 (fun W=>W.cell? ⟨b,off+k*8,none⟩=some (.int .i64 p.1.area)/\W.cell? ⟨b,off+k*8+1,none⟩=some (.int .i64 p.1.kind)/\W.cell? ⟨b,off+k*8+2,none⟩=some (.int .i64 p.1.owner)/\W.cell? ⟨b,off+k*8+3,none⟩=some (.int .i64 p.1.key)/\W.cell? ⟨b,off+k*8+4,none⟩=some (.int .i64 p.1.seq)/\W.cell? ⟨b,off+k*8+5,none⟩=some (.slice pa p.1.near.length pc)/\W.cell? ⟨b,off+k*8+6,none⟩=some (.int .i64 p.1.cost)/\W.cell? ⟨b,off+k*8+7,none⟩=some (.bool p.1.far)/\W.cell? ⟨w.heap.size,0,none⟩=some (.int .i64 r.1.area)/\W.cell? ⟨w.heap.size,1,none⟩=some (.int .i64 r.1.kind)/\W.cell? ⟨w.heap.size,2,none⟩=some (.int .i64 r.1.owner)/\W.cell? ⟨w.heap.size,3,none⟩=some (.int .i64 r.1.key)/\W.cell? ⟨w.heap.size,4,none⟩=some (.int .i64 r.1.seq)/\W.cell? ⟨w.heap.size,5,none⟩=some (.slice ra r.1.near.length rc)/\W.cell? ⟨w.heap.size,6,none⟩=some (.int .i64 r.1.cost)/\W.cell? ⟨w.heap.size,7,none⟩=some (.bool r.1.far)) (first | go_keep | (refine ⟨?_,?_,?_,?_,?_,?_,?_,?_,?_,?_,?_,?_,?_,?_,?_,?_⟩ <;> (rw [hbc.cell (by assumption)];assumption))) (first | (go_at_call 95;refine (HK.out _).mono ?_;rintro e w1 ⟨rfl,hbc⟩))
    have B1:Below w0.heap.size w0 w1:=hnx.trans ((Below.refl _ _).drew.trans (hbc.mono hsz));have OW1:=hide (Zae OW.out ((Below.refl wr.heap.size wr).drew.trans hbc) (Nat.le_refl _));have b1s:=B1.size;have m0:=(hbc.cell (p:=⟨b,off+k*8,none⟩) hb1).trans c0;have m1:=(hbc.cell (p:=⟨b,off+k*8+1,none⟩) hb1).trans c1;have m2:=(hbc.cell (p:=⟨b,off+k*8+2,none⟩) hb1).trans c2;have m3:=(hbc.cell (p:=⟨b,off+k*8+3,none⟩) hb1).trans c3;have m4:=(hbc.cell (p:=⟨b,off+k*8+4,none⟩) hb1).trans c4;have m5:=(hbc.cell (p:=⟨b,off+k*8+5,none⟩) hb1).trans c5;have m6:=(hbc.cell (p:=⟨b,off+k*8+6,none⟩) hb1).trans c6;have m7:=(hbc.cell (p:=⟨b,off+k*8+7,none⟩) hb1).trans c7;have HFT2:=hide (show l++[(p.1,.slice pa p.1.near.length pc)]=(ps.take (k+1)).filter (fun p=>Zam p.1 r.1) by rw [(HL).out,HFT.out, <-HPE.out];simp)
    go_wp2_with (first
     | (at_builtin;refine ZaL Zav (by omega) (by omega) _ rfl _ _ 29 rfl (w.heap.size+1) 39 Tryz.underlying29 (.agg (recC Za6 (.slice none 0 0))) rfl Tryz.infoRec _ (l) (p.1,.slice pa p.1.near.length pc) (ZbS _ _ _ _) rfl (OW1.out.alloc _) ⟨w1.heap.size,0,none⟩ 1 rfl (Zay (cs:=encP (p.1,.slice pa p.1.near.length pc))) (by have:=HQL.out;omega) (by simp;omega) ?_))
    intro v' w4 hown' hgrow;obtain⟨va,vc,rfl⟩:=Zac hown';have B4:Below w0.heap.size w0 w4:=(B1.alloc b1s _).grown hgrow (by simp;omega) (fun j hj=>by have:=(OW1.out.lt j hj).1;omega)
    have OW4:=hide hown';clear hown' hgrow
    go_wp2
    go_roundw
    case rel=>exact ⟨k+1,_,_,by omega,by go_num,rfl,HFT2,by simpa using OW4.out,B4⟩
    case measure=>simp [intOf];omega
  ·have hkn:k=ps.length:=by omega
   have htk:ps.take k=ps:=by rw [hkn,List.take_length]
   rw [htk] at HL;have OW:=hide hown;clear hown hkn htk;have hxx:=(hnx.block _ (Zab HX.out)).trans HX.out;have d0:=Zaa hxx 0;have d1:=Zaa hxx 1;have d2:=Zaa hxx 2;have d3:=Zaa hxx 3;have d4:=Zaa hxx 4;have d5:=Zaa hxx 5;have d6:=Zaa hxx 6;have d7:=Zaa hxx 7;simp at d0 d1 d2 d3 d4 d5 d6 d7
   clear hxx
   go_wp2_with (first
    | (at_builtin;refine ZaL Zav (by omega) (by omega) _ rfl _ _ 29 rfl (w.heap.size+1) 39 Tryz.underlying29 (.agg (recC Za6 (.slice none 0 0))) rfl Tryz.infoRec _ (l) (r.1,.slice ra r.1.near.length rc) (ZbS _ _ _ _) rfl (OW.out.alloc _) ⟨wr.heap.size,0,none⟩ 1 rfl (Zay (cs:=encP (r.1,.slice ra r.1.near.length rc))) (by have:=HQL.out;omega) (by simp;omega) ?_))
   intro v' w4 hown' hgrow;obtain⟨va,vc,rfl⟩:=Zac hown';have B2:=hide ((hnx.alloc hsz _).grown hgrow (by simp;omega) (fun j hj=>by have:=(OW.out.lt j hj).1;omega))
   have HRE:=hide (show r=(r.1,.slice ra r.1.near.length rc) from Prod.ext rfl HRN.out)
   have R2:=hide hown';clear hown' hgrow HQL d0 d1 d2 d3 d4 d5 d6 d7 OW hnx hsz BWR
   go_wp2
   go_loopw [7,5] (fun i o wr=>∃ (k:Nat) (u:Value) (l:List RP),k<=ps.length/\i=.int .i64 k/\o=u/\Hid (l=ps.filter (fun p=>Zam p.1 r.1)++[r]++(ps.take k).filter (fun p=>Zam r.1 p.1))/\wr.ownsRow (w.heap.size+1) 39 8 u l.length (flat encP l)/\Below w0.heap.size w0 wr) (fun i _ _=>ps.length-(intOf i).toNat)
   case atStart=>exact ⟨0,_,l++[(r.1,.slice ra r.1.near.length rc)],by omega,rfl,rfl,(hide (by rw [HL.out, <-HRE.out];simp)),by simpa using R2.out,B2.out⟩
   case round=>
    obtain⟨k,u,m,hk,rfl,rfl,HM,hown,hnx⟩:=hrel;obtain⟨ua,uc,rfl⟩:=Zac hown;have hsz:=hnx.size;have BWR:Below w.heap.size w wr:=BX.trans (hnx.mono (by omega))
    have HQL:=hide (show m.length<=2097153 by rw [(HM).out];have h1:=List.length_filter_le (fun p:RP=>Zam p.1 r.1) ps;have h2:=List.length_filter_le (fun p:RP=>Zam r.1 p.1) (ps.take k);simp at h1 h2 |-;omega)
    by_cases hlt:k<ps.length
    ·obtain ⟨p,hp⟩:∃ p,ps[k]? = some p:=⟨ps[k],List.getElem?_eq_getElem hlt⟩
     have hat:=HV.out.at;obtain⟨b,off,cap',hve,hbb,c0,c1,c2,c3,c4,c5,c6,c7,hnr⟩:=hat.cells k p hp;cases hve
     obtain⟨pa,pc,hpn⟩:=ZaC.shape hnr;rw [hpn] at c5;rw [<-BWR.cell (p:=⟨b,off+k*8,none⟩) (Nat.lt_of_lt_of_le hbb hhi)] at c0;rw [<-BWR.cell (p:=⟨b,off+k*8+1,none⟩) (Nat.lt_of_lt_of_le hbb hhi)] at c1;rw [<-BWR.cell (p:=⟨b,off+k*8+2,none⟩) (Nat.lt_of_lt_of_le hbb hhi)] at c2;rw [<-BWR.cell (p:=⟨b,off+k*8+3,none⟩) (Nat.lt_of_lt_of_le hbb hhi)] at c3;rw [<-BWR.cell (p:=⟨b,off+k*8+4,none⟩) (Nat.lt_of_lt_of_le hbb hhi)] at c4;rw [<-BWR.cell (p:=⟨b,off+k*8+5,none⟩) (Nat.lt_of_lt_of_le hbb hhi)] at c5;rw [<-BWR.cell (p:=⟨b,off+k*8+6,none⟩) (Nat.lt_of_lt_of_le hbb hhi)] at c6;rw [<-BWR.cell (p:=⟨b,off+k*8+7,none⟩) (Nat.lt_of_lt_of_le hbb hhi)] at c7;have hxx:=(hnx.block _ (Zab HX.out)).trans HX.out;have d0:=Zaa hxx 0;have d1:=Zaa hxx 1;have d2:=Zaa hxx 2;have d3:=Zaa hxx 3;have d4:=Zaa hxx 4;have d5:=Zaa hxx 5;have d6:=Zaa hxx 6;have d7:=Zaa hxx 7;simp at d0 d1 d2 d3 d4 d5 d6 d7
     have hb1:b<wr.heap.size:=by omega
     have hb2:w.heap.size<wr.heap.size:=by omega
     have hki:(0:Int)<=(k:Int):=by omega
     have hkj:(k:Int)<(ps.length:Int):=by omega
     have hq:=fun W=>Zeu r.2 p.2 r.1 p.1 W
     unfold recC at hq;rw [hpn,HRN.out] at hq;have hpe:p=(p.1,.slice pa p.1.near.length pc):=Prod.ext rfl hpn;obtain⟨q,hqq⟩:∃ q,q=Zam r.1 p.1:=⟨_,rfl⟩;rw [<-hqq] at hq;have HK:=hide hq;have hft:=Zdu (fun p=>Zam r.1 p.1) hp
     rw [<-hqq] at hft;have HFT:=hide hft;have HPE:=hide hpe;have OW:=hide hown;clear hq hqq hp hat hxx hnr hpn hft hpe hown;cases q
     ·go_wp2
      go_region_held3 (fun W=>W.cell? ⟨b,off+k*8,none⟩=some (.int .i64 p.1.area)/\W.cell? ⟨b,off+k*8+1,none⟩=some (.int .i64 p.1.kind)/\W.cell? ⟨b,off+k*8+2,none⟩=some (.int .i64 p.1.owner)/\W.cell? ⟨b,off+k*8+3,none⟩=some (.int .i64 p.1.key)/\W.cell? ⟨b,off+k*8+4,none⟩=some (.int .i64 p.1.seq)/\W.cell? ⟨b,off+k*8+5,none⟩=some (.slice pa p.1.near.length pc)/\W.cell? ⟨b,off+k*8+6,none⟩=some (.int .i64 p.1.cost)/\W.cell? ⟨b,off+k*8+7,none⟩=some (.bool p.1.far)/\W.cell? ⟨w.heap.size,0,none⟩=some (.int .i64 r.1.area)/\W.cell? ⟨w.heap.size,1,none⟩=some (.int .i64 r.1.kind)/\W.cell? ⟨w.heap.size,2,none⟩=some (.int .i64 r.1.owner)/\W.cell? ⟨w.heap.size,3,none⟩=some (.int .i64 r.1.key)/\W.cell? ⟨w.heap.size,4,none⟩=some (.int .i64 r.1.seq)/\W.cell? ⟨w.heap.size,5,none⟩=some (.slice ra r.1.near.length rc)/\W.cell? ⟨w.heap.size,6,none⟩=some (.int .i64 r.1.cost)/\W.cell? ⟨w.heap.size,7,none⟩=some (.bool r.1.far)) (first | go_keep | (refine ⟨?_,?_,?_,?_,?_,?_,?_,?_,?_,?_,?_,?_,?_,?_,?_,?_⟩ <;> (rw [hbc.cell (by assumption)];assumption))) (first | (go_at_call 95;refine (HK.out _).mono ?_;rintro e w1 ⟨rfl,hbc⟩))
      have B1:Below w0.heap.size w0 w1:=hnx.trans ((Below.refl _ _).drew.trans (hbc.mono hsz));have OW1:=hide (Zae OW.out ((Below.refl wr.heap.size wr).drew.trans hbc) (Nat.le_refl _));have HFT2:=hide (show m=ps.filter (fun p=>Zam p.1 r.1)++[r]++(ps.take (k+1)).filter (fun p=>Zam r.1 p.1) by rw [(HM).out,HFT.out];simp)
      go_wp2
      go_roundw
      case rel=>exact ⟨k+1,_,_,by omega,by go_num,rfl,HFT2,OW1.out,B1⟩
      case measure=>simp [intOf];omega
     ·go_wp2
      go_region_held3 (fun W=>W.cell? ⟨b,off+k*8,none⟩=some (.int .i64 p.1.area)/\W.cell? ⟨b,off+k*8+1,none⟩=some (.int .i64 p.1.kind)/\W.cell? ⟨b,off+k*8+2,none⟩=some (.int .i64 p.1.owner)/\W.cell? ⟨b,off+k*8+3,none⟩=some (.int .i64 p.1.key)/\W.cell? ⟨b,off+k*8+4,none⟩=some (.int .i64 p.1.seq)/\W.cell? ⟨b,off+k*8+5,none⟩=some (.slice pa p.1.near.length pc)/\W.cell? ⟨b,off+k*8+6,none⟩=some (.int .i64 p.1.cost)/\W.cell? ⟨b,off+k*8+7,none⟩=some (.bool p.1.far)/\W.cell? ⟨w.heap.size,0,none⟩=some (.int .i64 r.1.area)/\W.cell? ⟨w.heap.size,1,none⟩=some (.int .i64 r.1.kind)/\W.cell? ⟨w.heap.size,2,none⟩=some (.int .i64 r.1.owner)/\W.cell? ⟨w.heap.size,3,none⟩=some (.int .i64 r.1.key)/\W.cell? ⟨w.heap.size,4,none⟩=some (.int .i64 r.1.seq)/\W.cell? ⟨w.heap.size,5,none⟩=some (.slice ra r.1.near.length rc)/\W.cell? ⟨w.heap.size,6,none⟩=some (.int .i64 r.1.cost)/\W.cell? ⟨w.heap.size,7,none⟩=some (.bool r.1.far)) (first | go_keep | (refine ⟨?_,?_,?_,?_,?_,?_,?_,?_,?_,?_,?_,?_,?_,?_,?_,?_⟩ <;> (rw [hbc.cell (by assumption)];assumption))) (first | (go_at_call 95;refine (HK.out _).mono ?_;rintro e w1 ⟨rfl,hbc⟩))
      have B1:Below w0.heap.size w0 w1:=hnx.trans ((Below.refl _ _).drew.trans (hbc.mono hsz));have OW1:=hide (Zae OW.out ((Below.refl wr.heap.size wr).drew.trans hbc) (Nat.le_refl _));have b1s:=B1.size;have m0:=(hbc.cell (p:=⟨b,off+k*8,none⟩) hb1).trans c0;have m1:=(hbc.cell (p:=⟨b,off+k*8+1,none⟩) hb1).trans c1;have m2:=(hbc.cell (p:=⟨b,off+k*8+2,none⟩) hb1).trans c2;have m3:=(hbc.cell (p:=⟨b,off+k*8+3,none⟩) hb1).trans c3;have m4:=(hbc.cell (p:=⟨b,off+k*8+4,none⟩) hb1).trans c4;have m5:=(hbc.cell (p:=⟨b,off+k*8+5,none⟩) hb1).trans c5;have m6:=(hbc.cell (p:=⟨b,off+k*8+6,none⟩) hb1).trans c6;have m7:=(hbc.cell (p:=⟨b,off+k*8+7,none⟩) hb1).trans c7;have HFT2:=hide (show m++[(p.1,.slice pa p.1.near.length pc)]=ps.filter (fun p=>Zam p.1 r.1)++[r]++(ps.take (k+1)).filter (fun p=>Zam r.1 p.1) by rw [(HM).out,HFT.out, <-HPE.out];simp)
      go_wp2_with (first
       | (at_builtin;refine ZaL Zav (by omega) (by omega) _ rfl _ _ 29 rfl (w.heap.size+1) 39 Tryz.underlying29 (.agg (recC Za6 (.slice none 0 0))) rfl Tryz.infoRec _ (m) (p.1,.slice pa p.1.near.length pc) (ZbS _ _ _ _) rfl (OW1.out.alloc _) ⟨w1.heap.size,0,none⟩ 1 rfl (Zay (cs:=encP (p.1,.slice pa p.1.near.length pc))) (by have:=HQL.out;omega) (by simp;omega) ?_))
      intro v' w4 hown' hgrow;obtain⟨va,vc,rfl⟩:=Zac hown';have B4:Below w0.heap.size w0 w4:=(B1.alloc b1s _).grown hgrow (by simp;omega) (fun j hj=>by have:=(OW1.out.lt j hj).1;omega)
      have OW4:=hide hown';clear hown' hgrow
      go_wp2
      go_roundw
      case rel=>exact ⟨k+1,_,_,by omega,by go_num,rfl,HFT2,by simpa using OW4.out,B4⟩
      case measure=>simp [intOf];omega
    ·have hkn:k=ps.length:=by omega
     have htk:ps.take k=ps:=by rw [hkn,List.take_length]
     rw [htk] at HM;have OW:=hide hown;clear hown hkn htk
     go_wp2
     go_ret
     refine⟨_,rfl,⟨?_,fun j hj=>(OW.out.lt j hj).2,?_⟩,BWR,fun j hj=>by have:=(OW.out.lt j hj).1;omega⟩
     ·rw [<-HM.out];exact Zaj OW.out (Nat.zero_le _)
     intro q hq;have hmem:q∈ps\/q=r:=by
      rcases List.mem_append.1 hq with h | h
      ·rcases List.mem_append.1 h with h | h
       ·exact .inl ((List.mem_filter.1 h).1)
       ·exact .inr (by simpa using h)
      ·exact .inl ((List.mem_filter.1 h).1)
     have hno:ZaD w 0 hi q:=by
      rcases hmem with h | h
      ·exact HV.out.nears q h
      ·rw [h];exact HR.out
     exact (hno.keep (W':=wr) (fun j _ h2 _=>BWR.block j (by omega))).wide (Nat.le_refl _) (by omega)
theorem Zh6 (v:Value)(ps:List RP)(hi:Nat)(r:RP)(w:World)(hv:RecsIn w hi v ps)(hhi:hi<=w.heap.size)(hn:tot ps<=1048576)(hr:ZaD w 0 hi r):
  Calls Tryz.prog 64 #[v,.agg (recC r.1 r.2)] w fun e w'=>∃ x,e=.returned x/\RecsIn w' w'.heap.size x (putL ps r)/\Below w.heap.size w w':=by
 refine (ZoY v ps hi r w hv hhi hn hr).mono ?_
 rintro e w' ⟨x,h1,h2,h3,_⟩;exact⟨x,h1,h2,h3⟩
theorem Tryz.infoPtr:(Tryz.prog.info? 273).map (fun i=>(i.zero,i.size,i.bytes))=some (some (.pointer none),1,8):=by kernel_rfl
structure FK (W W':World) (lo z:Nat):Prop where
 os:W'.os=W.os
 tape:W'.tape=W.tape
 output:W'.output=W.output
 size:W.heap.size<=W'.heap.size
 low:∀ k,k<lo->W'.heap[k]? = W.heap[k]?
 typed:∀ (k:Nat) (cs:Array Value) (t:TypeId) (fr:Nat × Nat),W.heap[k]? = some (.cells cs t fr)->t≠273->k≠z->W'.heap[k]? = W.heap[k]?
theorem FK.trans {W W1 W2:World}{lo z:Nat}(a:FK W W1 lo z)(b:FK W1 W2 lo z):FK W W2 lo z:=
 ⟨b.os.trans a.os,b.tape.trans a.tape,b.output.trans a.output,Nat.le_trans a.size b.size,fun k hk=>(b.low k hk).trans (a.low k hk),fun k cs t fr h ht hz=>(b.typed k cs t fr ((a.typed k cs t fr h ht hz).trans h) ht hz).trans (a.typed k cs t fr h ht hz)⟩
theorem FK.of_below {W W':World}{lo z:Nat}(h:Below W.heap.size W W')(hlo:lo<=W.heap.size):FK W W' lo z:=⟨h.os,h.tape,h.output,h.size,fun k hk=>h.block k (by omega),fun k _ _ _ hk _ _=>h.block k (Zab hk)⟩
theorem FK.of_grown {W W':World}{lo z n:Nat}{u:Value}{xs:List Value}(hr:W.ownsRow lo 273 1 u n xs)(h:W.grownBy W' u.ownBlock)(hlo:lo<=W.heap.size):FK W W' lo z:=
 ⟨h.os,h.tape,h.output,h.size,fun k hk=>h.block k (by omega) (fun e=>by have:=(hr.lt k e.symm).1;omega),fun k _ _ _ hk ht _=>h.block k (Zab hk) (Zat hr hk (fun e=>ht e.symm))⟩
theorem FK.of_set {W:World}{lo z j:Nat}(u:Value)(hz:lo<=z):FK W (W.setCell ⟨z,j,none⟩ u) lo z:=
 ⟨rfl,rfl,rfl,by simp,fun k hk=>heap_setCell_other W ⟨z,j,none⟩ k _ (by show k≠z;omega),fun k _ _ _ _ _ hk=>heap_setCell_other W ⟨z,j,none⟩ k _ hk⟩
theorem FK.below {W W':World}{lo z:Nat}(h:FK W W' lo z):Below lo W W':=⟨h.os,h.tape,h.output,h.size,h.low⟩
theorem Znn (q:Nat->Nat)(n k:Nat):ptrs (fun x=>if x=n then k else q x) (n+1)=ptrs q n++[ptrV k]:=by
 unfold ptrs;rw [List.range_succ,List.map_append]
 congr 1
 ·apply List.map_congr_left
  intro i hi;have hi2:=List.mem_range.1 hi
  show ptrV (if i=n then k else q i)=ptrV (q i)
  rw [if_neg (by omega)]
 ·simp
theorem ZoT {W:World}{lo n g cap k:Nat}{e:TypeId}{xs:List Value}(h:W.ownsRow lo e 1 (.slice (some ⟨g,0,none⟩) n cap) n xs)(hk:k<=n):W.ownsRow lo e 1 (.slice (some ⟨g,0,none⟩) k cap) k (xs.take k):=by
 rcases h.2 with ⟨e1,_⟩ | ⟨g',cap',cur,hv,hg,hh,hnc,hcm,hcs,htk⟩
 ·cases e1
 ·cases hv
  have hl:=h.1;refine⟨by rw [List.length_take];omega,.inr ⟨g,cap,cur,rfl,hg,hh,by omega,hcm,hcs,?_⟩⟩
  rw [<-htk,List.take_take]
  congr 1
  omega
theorem Zno (q:Nat->Nat){n k:Nat}(h:k<=n):(ptrs q n).take k=ptrs q k:=by
 unfold ptrs;rw [<-List.map_take,List.take_range,Nat.min_eq_left h]
theorem Ze7 {w:World}{o:Oper}{a:Act}{K:Act->World->Prop}{Q:Exit->Act->World->Prop}{lo:Nat}{u:Value}(s x:Operand) (ho:o.op=.call { callee:=.builtin .append,args:=#[s,x],argTypes:=#[276,276] }) (q:Nat->Nat) (k n:Nat) (hs:a.eval s=u) (hown:w.ownsRow lo 273 1 u n (ptrs q n))
  {g:Nat} (hx:a.eval x=.slice (some ⟨g,0,none⟩) 1 1) (hnew:w.cell? ⟨g,0,none⟩=some (ptrV k)) (hn:n<=1000000) (hlo:lo<=w.heap.size)
  (h:∀ v' w',w'.ownsRow lo 273 1 v' (n+1) (ptrs (fun x=>if x=n then k else q x) (n+1))->w.grownBy w' u.ownBlock->K (a.put o.dst v') w'):o.wp Tryz.prog a w K Q:=by
 obtain⟨i0,hi,hz0,hz1,hz2⟩:=info_parts Tryz.infoPtr;refine wp_append_own w s x 276 ho lo 273 i0 (.pointer none) 1 8 ZfM hi hz0 hz1 hz2 rfl (by omega) u n (ptrs q n) hs hown ⟨g,0,none⟩ 1 1 [ptrV k] hx rfl ?_ ?_ (by unfold maxLen;omega) (by omega) hlo ?_
 ·intro j u hj
  match j,hj with
  | 0,hj=>simp at hj;subst hj;exact hnew
 ·intro u hu
  simp at hu
  subst hu
  rfl
 ·intro v' w' h1 h2 _
  rw [<-Znn] at h1;exact h v' w' h1 h2
theorem Zlj (v:Value)(w:World):(Instr.typeAssert (.iface 273 v) 20 273 false).run Tryz.prog w=.ok v w:=by kernel_rfl
theorem Znp (W:World)(lo z n:Nat)(C:Array Value)(u:Value)(q:Nat->Nat)(wd:Nat->WayD)(wv:Nat->Value)(k:Nat)(h:HB W lo z C u n q wd wv)(hlo:lo<=W.heap.size)(hn:n<=1000)(hC:C.size=8)(hz:lo<=z)
  (hk:W.heap[k]? = some (.cells (wayC (wd k) (wv k)) 194)) (hks:∃ a l c,wv k=.slice a l c):
  Calls Tryz.prog 337 #[.pointer (some ⟨z,7,none⟩),.iface 273 (.pointer (some ⟨k,0,none⟩))] W fun e W'=>∃ u',e=.returned (.tuple #[])/\HB W' lo z (C.setIfInBounds 7 u') u' (n+1) (fun x=>if x=n then k else q x) wd wv/\FK W W' lo z:=by
 have cz:=h.cell;have fz:=Zaf h.box;obtain⟨a1,c1,rfl⟩:=Zac h.hq.row;have FIN:∀ (W3:World) (u':Value) (W1:World),(∀ j,j<W.heap.size->W1.heap[j]? = W.heap[j]?)->W.heap.size<=W1.heap.size->W1.os=W.os->W1.tape=W.tape->W1.output=W.output->W3.ownsRow lo 273 1 u' (n+1) (ptrs (fun x=>if x=n then k else q x) (n+1))->W1.grownBy W3 (Value.slice a1 n c1).ownBlock ->
   W3.cell? ⟨z,7,none⟩=some (.slice a1 n c1)/\(∀ j,W3.frozen? ⟨z,j,none⟩=false)/\HB (W3.setCell ⟨z,7,none⟩ u') lo z (C.setIfInBounds 7 u') u' (n+1) (fun x=>if x=n then k else q x) wd wv/\FK W (W3.setCell ⟨z,7,none⟩ u') lo z:=by
  intro W3 u' W1 hW1 hs1 e1 e2 e3 ho3 hg3;have keep:∀ j,j<W.heap.size->some j≠(Value.slice a1 n c1).ownBlock->W3.heap[j]? = W.heap[j]? := fun j hj hne=>(hg3.block j (by omega) hne).trans (hW1 j hj)
  have hb3:W3.heap[z]? = some (.cells C 278):=(keep z (Zab h.box) (Zat h.hq.row h.box (by decide))).trans h.box
  have kway:∀ (j:Nat) (x:Array Value),W.heap[j]? = some (.cells x 194)->(W3.setCell ⟨z,7,none⟩ u').heap[j]? = some (.cells x 194):=by
   intro j x hj;rw [heap_setCell_other W3 ⟨z,7,none⟩ j _ (by
    intro e;have e':j=z:=e;rw [e',h.box] at hj;simp at hj)]
   exact (keep j (Zab hj) (Zat h.hq.row hj (by decide))).trans hj
  refine⟨(Zaa hb3 7).trans h.c7,Zaf hb3,⟨heap_setCell_same _ _ 7 _ _ _ hb3,by simp [hC],?_,fun i hi=>?_,fun i hi=>?_⟩,?_⟩
  ·exact Zan ho3 (fun j hj=>heap_setCell_other W3 ⟨z,7,none⟩ j _ (fun e=>by
    have e':j=z:=e;exact Zat ho3 hb3 (by decide) (by rw [hj,e'])))
  ·show (W3.setCell ⟨z,7,none⟩ u').heap[if i=n then k else q i]? = some (.cells (wayC (wd (if i=n then k else q i)) (wv (if i=n then k else q i))) 194)
   by_cases e:i=n
   ·rw [if_pos e];exact kway k _ hk
   ·rw [if_neg e];exact kway _ _ (h.hq.way i (by omega))
  ·show ∃ a l c,wv (if i=n then k else q i)=.slice a l c
   by_cases e:i=n
   ·rw [if_pos e];exact hks
   ·rw [if_neg e];exact h.hq.sl i (by omega)
  ·refine FK.trans ?_ (FK.of_set u' hz)
   exact⟨hg3.os.trans e1,hg3.tape.trans e2,hg3.output.trans e3,by have:=hg3.size;omega,fun j hj=>keep j (by omega) (fun e=>by have:=(h.hq.row.lt j e.symm).1;omega),fun j _ _ _ hj ht _=>keep j (Zab hj) (Zat h.hq.row hj (fun e=>ht e.symm))⟩
 have HFIN:=hide FIN;have HH:=hide h;have lz:=Zab h.box;clear FIN h fz hk
 go_enter Tryz.func337,Tryz.ntmps337
 go_wp2
 refine Zag (S:=fun _=>True) (by kernel_rfl) 10 rfl trivial ?_
 intro ops hops _;have czd:W.drew.cell? ⟨z,7,none⟩=some (.slice a1 n c1):=cz
 show wpAnyH Tryz.prog .any ops _ (fun _=>True) 10 #[false,false,false,false,false,false,false,false,false,false] _ W.drew
 iterate 3
  refine Zar 10 ?_ ?_ ?_ (by rw [hops.out];kernel_rfl) ?_ ?_ trivial ?_
  rotate_left 2
  ·rw [hops.out];simp only [getS,Nat.reduceSub,Nat.reduceAdd];rfl
  ·intro W _;have hAs:=fun v=>Zlj v W;go_simp <;> with_reducible rfl
  ·exact fun _ _ _=>id
  try simp only [putS]
 refine ZaP 4 ?_ ?_ ?_ (by rw [hops.out];kernel_rfl) ?_ ?_ trivial ?_
 rotate_left 2
 ·rw [hops.out];simp only [getS];rfl
 ·intro W _;have hAs:=fun v=>Zlj v W;go_simp <;> with_reducible rfl
 ·exact fun _ _ _=>id
 try simp only [putS]
 refine ZaP 5 ?_ ?_ ?_ (by rw [hops.out];kernel_rfl) ?_ ?_ trivial ?_
 rotate_left 2
 ·rw [hops.out];simp only [getS];rfl
 ·intro W _;have hAs:=fun v=>Zlj v W;go_simp <;> with_reducible rfl
 ·exact fun _ _ _=>id
 try simp only [putS]
 refine wpAnyH_ready (rs:=[3,6]) (by rw [hops.out];kernel_rfl) (by simp) ?_
 refine AllReadyH.cons (o:=?_) ?_ (fun K hK=>?_) ?_
 rotate_left 1
 ·rw [hops.out];simp only [getS];rfl
 ·rw [if_pos (by rfl)]
  go_simp
  refine hK.out _ _ trivial (fun _=>?_)
  clear hK K
  try simp only [putS]
  refine wpAnyH_ready (rs:=[6]) (by rw [hops.out];kernel_rfl) (by simp) ?_
  refine AllReadyH.cons (o:=?_) ?_ (fun K hK=>?_) ?_
  rotate_left 1
  ·rw [hops.out];simp only [getS];rfl
  ·rw [if_pos (by rfl)]
   go_simp
   refine hK.out _ _ trivial (fun _=>?_)
   clear hK K
   try simp only [putS]
   have ho2:=(HH.out.hq.row.drew).alloc (.cells #[.pointer (some ⟨k,0,none⟩)] 273);have nw2:=Zaa (heap_alloc_new W.drew (.cells #[.pointer (some ⟨k,0,none⟩)] 273)) 0;have hs2:lo<=(W.drew.alloc (.cells #[.pointer (some ⟨k,0,none⟩)] 273)).heap.size:=by simp;omega
   refine Zak 7 (oi:=?_) ?_ (by rw [hops.out];kernel_rfl) ?_ ?_
   rotate_left 1
   ·rw [hops.out];simp only [getS];rfl
   ·rw [hops.out];kernel_rfl
   intro K hK;refine Ze7 _ _ rfl q k n rfl ho2 rfl nw2 (by omega) hs2 ?_
   intro v' W3 ho3 hg3;obtain⟨na,nc,rfl⟩:=Zac ho3;refine hK.out _ _ trivial (fun _=>?_)
   clear hK K
   try simp only [putS]
   refine ZaP 8 ?_ ?_ ?_ (by rw [hops.out];kernel_rfl) ?_ ?_ trivial ?_
   rotate_left 2
   ·rw [hops.out];simp only [getS];rfl
   ·intro W _;have hAs:=fun v=>Zlj v W;go_simp <;> with_reducible rfl
   ·exact fun _ _ _=>id
   try simp only [putS]
   obtain⟨d7,f7,r1,r2⟩:=HFIN.out W3 _ ((W.alloc (.cells #[.pointer (some ⟨k,0,none⟩)] 273)).drew) (fun j hj=>Below.heap_alloc W _ j hj) (by show W.heap.size<=(W.alloc (.cells #[.pointer (some ⟨k,0,none⟩)] 273)).heap.size;simp) rfl rfl rfl ho3 hg3
   have R1:=hide r1;have R2:=hide r2;clear r1 r2 ho3 hg3 ho2 nw2 HFIN HH;refine Zak 9 (oi:=?_) ?_ (by rw [hops.out];kernel_rfl) ?_ ?_
   rotate_left 1
   ·rw [hops.out];simp only [getS];rfl
   ·rw [hops.out];kernel_rfl
   intro K hK;have f77:=f7 7
   go_simp
   refine hK.out _ _ trivial (fun _=>?_)
   clear hK K;refine wpAnyH_done (by rw [hops.out];kernel_rfl) ?_ _
   clear hops ops
   go_wp2
   go_returns
   exact⟨_,rfl,R1.out,R2.out⟩
  exact AllReadyH.nil
 refine AllReadyH.cons (o:=?_) ?_ (fun K hK=>?_) ?_
 rotate_left 1
 ·rw [hops.out];simp only [getS];rfl
 ·rw [if_pos (by rfl)]
  go_simp
  refine hK.out _ _ trivial (fun _=>?_)
  clear hK K
  try simp only [putS]
  refine wpAnyH_ready (rs:=[3]) (by rw [hops.out];kernel_rfl) (by simp) ?_
  refine AllReadyH.cons (o:=?_) ?_ (fun K hK=>?_) ?_
  rotate_left 1
  ·rw [hops.out];simp only [getS];rfl
  ·rw [if_pos (by rfl)]
   have cz5:(W.drew.alloc (.cells #[.pointer (some ⟨k,0,none⟩)] 273)).cell? ⟨z,7,none⟩=some (.slice a1 n c1):=by
    rw [World.cell?_of_block (Below.heap_alloc _ _ _ (by simpa using lz))]
    exact czd
   go_simp
   refine hK.out _ _ trivial (fun _=>?_)
   clear hK K cz5
   try simp only [putS]
   have ho2:=(HH.out.hq.row.drew).alloc (.cells #[.pointer (some ⟨k,0,none⟩)] 273);have nw2:=Zaa (heap_alloc_new W.drew (.cells #[.pointer (some ⟨k,0,none⟩)] 273)) 0;have hs2:lo<=(W.drew.alloc (.cells #[.pointer (some ⟨k,0,none⟩)] 273)).heap.size:=by simp;omega
   refine Zak 7 (oi:=?_) ?_ (by rw [hops.out];kernel_rfl) ?_ ?_
   rotate_left 1
   ·rw [hops.out];simp only [getS];rfl
   ·rw [hops.out];kernel_rfl
   intro K hK;refine Ze7 _ _ rfl q k n rfl ho2 rfl nw2 (by omega) hs2 ?_
   intro v' W3 ho3 hg3;obtain⟨na,nc,rfl⟩:=Zac ho3;refine hK.out _ _ trivial (fun _=>?_)
   clear hK K
   try simp only [putS]
   refine ZaP 8 ?_ ?_ ?_ (by rw [hops.out];kernel_rfl) ?_ ?_ trivial ?_
   rotate_left 2
   ·rw [hops.out];simp only [getS];rfl
   ·intro W _;have hAs:=fun v=>Zlj v W;go_simp <;> with_reducible rfl
   ·exact fun _ _ _=>id
   try simp only [putS]
   obtain⟨d7,f7,r1,r2⟩:=HFIN.out W3 _ ((W.alloc (.cells #[.pointer (some ⟨k,0,none⟩)] 273)).drew) (fun j hj=>Below.heap_alloc W _ j hj) (by show W.heap.size<=(W.alloc (.cells #[.pointer (some ⟨k,0,none⟩)] 273)).heap.size;simp) rfl rfl rfl ho3 hg3
   have R1:=hide r1;have R2:=hide r2;clear r1 r2 ho3 hg3 ho2 nw2 HFIN HH;refine Zak 9 (oi:=?_) ?_ (by rw [hops.out];kernel_rfl) ?_ ?_
   rotate_left 1
   ·rw [hops.out];simp only [getS];rfl
   ·rw [hops.out];kernel_rfl
   intro K hK;have f77:=f7 7
   go_simp
   refine hK.out _ _ trivial (fun _=>?_)
   clear hK K;refine wpAnyH_done (by rw [hops.out];kernel_rfl) ?_ _
   clear hops ops
   go_wp2
   go_returns
   exact⟨_,rfl,R1.out,R2.out⟩
  exact AllReadyH.nil
 exact AllReadyH.nil
theorem ZoV (W:World)(lo z n:Nat)(C:Array Value)(u:Value)(q:Nat->Nat)(wd:Nat->WayD)(wv:Nat->Value)(h:HB W lo z C u (n+1) q wd wv)(hn:n<=1000)(hC:C.size=8)(hz:lo<=z):
  Calls Tryz.prog 336 #[.pointer (some ⟨z,7,none⟩)] W fun e W'=>∃ u',e=.returned (.iface 273 (ptrV (q n)))/\HB W' lo z (C.setIfInBounds 7 u') u' n q wd wv/\FK W W' lo z:=by
 obtain⟨g,cap,hu,cn,hg⟩:=h.hq.cell (i:=n) (by omega)
 have cz:=h.cell;have fz:=Zaf h.box;subst hu;unfold ptrV at cn |-;have hcap:n+1<=cap:=by
  rcases h.hq.row.2 with ⟨e1,_⟩ | ⟨g',cap',cur,hv,_,hh,hnc,_⟩
  ·cases e1
  ·cases hv;exact hnc
 have R1:=hide (show HB (W.setCell ⟨z,7,none⟩ (.slice (some ⟨g,0,none⟩) n cap)) lo z (C.setIfInBounds 7 (.slice (some ⟨g,0,none⟩) n cap)) (.slice (some ⟨g,0,none⟩) n cap) n q wd wv by
  have hzg:some z≠(Value.slice (some ⟨g,0,none⟩) (n+1) cap).ownBlock:=Zat h.hq.row h.box (by decide)
  have hgz:g≠z:=fun e=>hzg (by rw [e];rfl)
  refine⟨heap_setCell_same _ _ 7 _ _ _ h.box,by simp [hC],?_,fun i hi=>?_,fun i hi=>h.hq.sl i (by omega)⟩
  ·have o1:=ZoT h.hq.row (k:=n) (by omega)
   rw [Zno q (by omega)] at o1
   exact Zan o1 (fun j hj=>heap_setCell_other W ⟨z,7,none⟩ j _ (fun e=>by
    have e':j=z:=e;simp [Value.ownBlock] at hj
    omega))
  ·have hw:=h.hq.way i (by omega)
   rw [heap_setCell_other W ⟨z,7,none⟩ (q i) _ (fun e=>by
    have e':q i=z:=e;rw [e',h.box] at hw;simp at hw)]
   exact hw)
 have R2:=hide (show FK W (W.setCell ⟨z,7,none⟩ (.slice (some ⟨g,0,none⟩) n cap)) lo z from FK.of_set _ hz)
 have f7:=fz 7;have hw1:IntKind.i64.wrap (((n+1:Nat):Int)-1)=(n:Int):=by rw [ZaK _ (by omega) (by omega)];omega
 have hw2:IntKind.i64.wrap ((n:Int)+1-1)=(n:Int):=by rw [ZaK _ (by omega) (by omega)];omega
 have h1:(0:Int)<=(n:Int):=by omega
 have h2:(n:Int)<((n+1:Nat):Int):=by omega
 have h3:(n:Int)<=(cap:Int):=by omega
 clear h fz hC
 go_enter Tryz.func336,Tryz.ntmps336
 go_wp2
 go_ret
 first
  | exact ⟨_,rfl,R1.out,R2.out⟩
  | exact ⟨rfl,_,R1.out,R2.out⟩
theorem ZiL (W:World)(lo z n:Nat)(C:Array Value)(u:Value)(q:Nat->Nat)(wd:Nat->WayD)(wv:Nat->Value)(k:Nat)(h:HB W lo z C u n q wd wv)(hlo:lo<=W.heap.size)(hn:n<=1000)(hC:C.size=8)(hz:lo<=z)
  (hk:W.heap[k]? = some (.cells (wayC (wd k) (wv k)) 194)) (hks:∃ a l c,wv k=.slice a l c) (hh:ZcG (fun k=>(wd k).cost) q n):
  Calls Tryz.prog 262 #[.iface 296 (.pointer (some ⟨z,7,none⟩)),.iface 273 (.pointer (some ⟨k,0,none⟩))] W fun e W'=>∃ u' q',e=.returned (.tuple #[])/\ZcG (fun k=>(wd k).cost) q' (n+1)/\Shuf (fun x=>if x=n then k else q x) q' (n+1)/\HB W' lo z (C.setIfInBounds 7 u') u' (n+1) q' wd wv/\FK W W' lo z:=by
 have HP:=hide (Znp W lo z n C u q wd wv k h hlo hn hC hz hk hks);have HUP:=hide (ZpP (k:=k) hh);clear h hk hh
 go_enter Tryz.func262,Tryz.ntmps262
 go_wp2_with fail
 refine HP.out.mono ?_
 rintro e w1 ⟨u',rfl,h1,f1⟩;have cz1:=h1.cell;obtain⟨a1,c1,rfl⟩:=Zac h1.hq.row;have mL:=ZkO cz1;have hs1:lo<=w1.heap.size:=Nat.le_trans hlo f1.size;have HU:=hide (up_any w1 lo z (n+1) _ _ _ wd wv n h1 (by omega) (by omega) HUP.out)
 have HF1:=hide f1;have HR1:=hide h1.hq.row;have hw1:IntKind.i64.wrap (((n+1:Nat):Int)-1)=(n:Int):=by rw [ZaK _ (by omega) (by omega)];omega
 have hw2:IntKind.i64.wrap ((n:Int)+1-1)=(n:Int):=by rw [ZaK _ (by omega) (by omega)];omega
 clear h1 f1 HP HUP
 go_wp2_with fail
 refine (ZhU _ _ _ _).mono ?_
 rintro e w2 ⟨rfl,rfl⟩
 go_wp2_with fail
 refine HU.out.mono ?_
 rintro e w2 ⟨q',rfl,hi,hsh,hb,hg⟩;have HI:=hide hi;have HS:=hide hsh;have HB2:=hide hb;have HF2:=hide (HF1.out.trans (FK.of_grown HR1.out hg hs1));clear hi hsh hb hg mL
 go_wp2
 go_returns
 exact⟨_,q',rfl,HI.out,HS.out,HB2.out,HF2.out⟩
theorem ZiK {W W':World}{lo z n:Nat}{C:Array Value}{u:Value}{q:Nat->Nat}{wd:Nat->WayD}{wv:Nat->Value}(h:HB W lo z C u n q wd wv)(hg:W.grownBy W' u.ownBlock)(hlo:lo<=W.heap.size):FK W W' lo z:=FK.of_grown h.hq.row hg hlo
theorem ZjJ (W:World)(lo z n:Nat)(C:Array Value)(u:Value)(q:Nat->Nat)(wd:Nat->WayD)(wv:Nat->Value)(h:HB W lo z C u (n+1) q wd wv)(hlo:lo<=W.heap.size)(hn:n<=1000)(hC:C.size=8)(hz:lo<=z)(hh:ZcG (fun k=>(wd k).cost) q (n+1)):
  Calls Tryz.prog 264 #[.iface 296 (.pointer (some ⟨z,7,none⟩))] W fun e W'=>∃ u' q',e=.returned (.iface 273 (ptrV (q 0)))/\ZcG (fun k=>(wd k).cost) q' n/\Shuf (Zcb q 0 n) q' n/\HB W' lo z (C.setIfInBounds 7 u') u' n q' wd wv/\FK W W' lo z:=by
 have cz:=h.cell;obtain⟨a1,c1,rfl⟩:=Zac h.hq.row;have mL:=ZkO cz;have mS:=ZdD cz;have HSW:=hide (Ze3 W lo (n+1) _ q 0 n h.hq.row (by omega) (by omega))
 have HPD:=hide (ZoW hh);have HH:=hide h;have hw1:IntKind.i64.wrap (((n+1:Nat):Int)-1)=(n:Int):=by rw [ZaK _ (by omega) (by omega)];omega
 have hw2:IntKind.i64.wrap ((n:Int)+1-1)=(n:Int):=by rw [ZaK _ (by omega) (by omega)];omega
 clear h hh
 go_enter Tryz.func264,Tryz.ntmps264
 go_wp2_with fail
 refine (ZhU _ _ _ _).mono ?_
 rintro e w1 ⟨rfl,rfl⟩
 go_wp2_with fail
 refine HSW.out.mono ?_
 rintro e w2 ⟨rfl,ho2,hg2⟩;have h2:=HH.out.shuf hg2 ho2 (Shuf.swap q (by omega) (by omega))
 have hs2:lo<=w2.heap.size:=Nat.le_trans hlo hg2.size;have HD:=hide (Zod w2 lo z n (n+1) C _ _ wd wv h2 (by omega) (by omega) HPD.out)
 have HF2:=hide (ZiK HH.out hg2 hlo (z:=z));have HH2:=hide h2;clear h2 ho2 hg2 mL mS cz HSW HPD
 go_wp2_with fail
 refine HD.out.mono ?_
 rintro e w3 ⟨r,q',rfl,hi,hsh,hb,hg⟩;have HI:=hide hi;have HS:=hide hsh;have HF3:=hide (HF2.out.trans (ZiK HH2.out hg hs2 (z:=z)));have HPO:=hide (ZoV w3 lo z n C _ q' wd wv hb hn hC hz);have HQ0:=hide (show q' n=q 0 by
  rw [hsh.rest n (Nat.le_refl _)];unfold Zcb;by_cases e:n=0
  ·rw [if_pos e,e]
  ·rw [if_neg e,if_pos rfl])
 clear hi hsh hb hg HD
 go_wp2_with fail
 refine HPO.out.mono ?_
 rintro e w4 ⟨u',rfl,hb4,f4⟩;rw [HQ0.out];have HB4:=hide hb4;have HF4:=hide (HF3.out.trans f4);clear hb4 f4 HPO
 go_wp2
 go_returns
 exact⟨_,q',rfl,HI.out,HS.out,HB4.out,HF4.out⟩
end Go.Proofs.YtadokhjefnkajaaGreat
