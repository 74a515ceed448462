/-
  PutS
-/
import Derived.Test.YtcimbiinljcifaaGreatLn8
namespace Go.Proofs.YtcimbiinljcifaaGreat
open Go.RowKit
set_option linter.unusedSimpArgs false
set_option linter.unusedVariables false
set_option maxRecDepth 100000
set_option maxHeartbeats 8000000
def putL (ps:List RP)(r:RP):List RP:=ps.filter (fun p=>Zan p.1 r.1)++[r]++ps.filter (fun p=>Zan r.1 p.1)
theorem Zdb {ps:List RP}{k:Nat}{p:RP}(f:RP->Bool)(h:ps[k]? = some p):(ps.take (k+1)).filter f=(ps.take k).filter f++(if f p then [p] else []):=by
 obtain⟨hk,e⟩:=List.getElem?_eq_some_iff.1 h;rw [List.take_succ_eq_append_getElem hk,List.filter_append,e]
 congr 1
 by_cases hf:f p <;> simp [hf]
theorem ZiX (v:Value)(ps:List RP)(hi:Nat)(r:RP)(w:World)(hv:RecsIn w hi v ps)(hhi:hi<=w.heap.size)(hn:tot ps<=1048576)(hr:Zat w 0 hi r):
  Calls Tryz.prog 74 #[v,.agg (recC r.1 r.2)] w fun e w'=>∃ x,e=.returned x/\RecsIn w' w'.heap.size x (putL ps r)/\Below w.heap.size w w'/\∀ k,x.ownBlock=some k->w.heap.size<=k:=by
 unfold putL;have hnl:=Za3 ps;obtain⟨a1,c1,rfl⟩:=Zac hv.row;obtain⟨ra,rc,hrn⟩:=Zac hr.1;have HRN:=hide hrn;have HR:=hide hr;have HV:=hide hv;unfold recC;rw [hrn];clear hv hr hrn;have BX:Below w.heap.size w (w.alloc (.cells #[.int .i64 r.1.area,.int .i64 r.1.kind,.int .i64 r.1.owner,.int .i64 r.1.key,.int .i64 r.1.seq,.slice ra r.1.near.length rc,.int .i64 r.1.cost,.bool r.1.far] 40)):=(Below.refl _ _).alloc (Nat.le_refl _) _;have hx:=heap_alloc_new w (.cells #[.int .i64 r.1.area,.int .i64 r.1.kind,.int .i64 r.1.owner,.int .i64 r.1.key,.int .i64 r.1.seq,.slice ra r.1.near.length rc,.int .i64 r.1.cost,.bool r.1.far] 40);obtain⟨w0,hw0⟩:∃ w0,w0=w.alloc (.cells #[.int .i64 r.1.area,.int .i64 r.1.kind,.int .i64 r.1.owner,.int .i64 r.1.key,.int .i64 r.1.seq,.slice ra r.1.near.length rc,.int .i64 r.1.cost,.bool r.1.far] 40):=⟨_,rfl⟩;have hs0:w0.heap.size=w.heap.size+1:=by rw [hw0];simp
 rw [<-hw0] at BX hx;have R0:=hide (World.ownsRow_lit (e:=40) (size:=8) w0 #[] 0 (show w.heap.size+1<=w0.heap.size by omega) (by unfold maxLen;omega) (by simp))
 have B0:=hide (show Below w0.heap.size w0 (w0.alloc (.cells #[] 40)) from (Below.refl _ _).alloc (Nat.le_refl _) _)
 have HX:=hide hx;clear hx
 go_enter Tryz.func74,Tryz.ntmps74
 go_wp2
 rw [<-hw0];rw [hs0] at R0;have hs0l:w.heap.size+1<=w0.heap.size:=by omega
 have hs0r:w0.heap.size<=w.heap.size+1:=by omega
 clear hs0 hw0;generalize w0.alloc (.cells #[] 40)=wL at *
 go_loopw [6,5] (fun i o wr=>∃ (k:Nat) (u:Value) (l:List RP),k<=ps.length/\i=.int .i64 k/\o=u/\Hid (l=(ps.take k).filter (fun p=>Zan p.1 r.1))/\wr.ownsRow (w.heap.size+1) 40 8 u l.length (flat encP l)/\Below w0.heap.size w0 wr) (fun i _ _=>ps.length-(intOf i).toNat)
 case atStart=>exact ⟨0,_,[],by omega,rfl,rfl,rfl,by simpa [flat] using R0.out,B0.out⟩
 case round=>
  obtain⟨k,u,l,hk,rfl,rfl,HL,hown,hnx⟩:=hrel;obtain⟨ua,uc,rfl⟩:=Zac hown;have hsz:=hnx.size;have BWR:Below w.heap.size w wr:=BX.trans (hnx.mono (by omega))
  have HQL:=hide (show l.length<=2097153 by rw [(HL).out];have h2:=List.length_filter_le (fun p:RP=>Zan p.1 r.1) (ps.take k);simp at h2 |-;omega)
  by_cases hlt:k<ps.length
  ·obtain ⟨p,hp⟩:∃ p,ps[k]? = some p:=⟨ps[k],List.getElem?_eq_getElem hlt⟩
   have hat:=HV.out.at;obtain⟨b,off,cap',hve,hbb,c0,c1,c2,c3,c4,c5,c6,c7,hnr⟩:=hat.cells k p hp;cases hve
   obtain⟨pa,pc,hpn⟩:=ZaA.shape hnr;rw [hpn] at c5;rw [<-BWR.cell (p:=⟨b,off+k*8,none⟩) (Nat.lt_of_lt_of_le hbb hhi)] at c0;rw [<-BWR.cell (p:=⟨b,off+k*8+1,none⟩) (Nat.lt_of_lt_of_le hbb hhi)] at c1;rw [<-BWR.cell (p:=⟨b,off+k*8+2,none⟩) (Nat.lt_of_lt_of_le hbb hhi)] at c2;rw [<-BWR.cell (p:=⟨b,off+k*8+3,none⟩) (Nat.lt_of_lt_of_le hbb hhi)] at c3;rw [<-BWR.cell (p:=⟨b,off+k*8+4,none⟩) (Nat.lt_of_lt_of_le hbb hhi)] at c4;rw [<-BWR.cell (p:=⟨b,off+k*8+5,none⟩) (Nat.lt_of_lt_of_le hbb hhi)] at c5;rw [<-BWR.cell (p:=⟨b,off+k*8+6,none⟩) (Nat.lt_of_lt_of_le hbb hhi)] at c6;rw [<-BWR.cell (p:=⟨b,off+k*8+7,none⟩) (Nat.lt_of_lt_of_le hbb hhi)] at c7;have hxx:=(hnx.block _ (Zab HX.out)).trans HX.out;have d0:=Zaa hxx 0;have d1:=Zaa hxx 1;have d2:=Zaa hxx 2;have d3:=Zaa hxx 3;have d4:=Zaa hxx 4;have d5:=Zaa hxx 5;have d6:=Zaa hxx 6;have d7:=Zaa hxx 7;simp at d0 d1 d2 d3 d4 d5 d6 d7
   have hb1:b<wr.heap.size:=by omega
   have hb2:w.heap.size<wr.heap.size:=by omega
   have hki:(0:Int)<=(k:Int):=by omega
   have hkj:(k:Int)<(ps.length:Int):=by omega
   have hq:=fun W=>ZdK p.2 r.2 p.1 r.1 W
   unfold recC at hq;rw [hpn,HRN.out] at hq;have hpe:p=(p.1,.slice pa p.1.near.length pc):=Prod.ext rfl hpn;obtain⟨q,hqq⟩:∃ q,q=Zan p.1 r.1:=⟨_,rfl⟩;rw [<-hqq] at hq;have HK:=hide hq;have hft:=Zdb (fun p=>Zan p.1 r.1) hp
   rw [<-hqq] at hft;have HFT:=hide hft;have HPE:=hide hpe;have OW:=hide hown;clear hq hqq hp hat hxx hnr hpn hft hpe hown;cases q
   ·go_wp2
    go_region_held3 (fun W=>W.cell? ⟨b,off+k*8,none⟩=some (.int .i64 p.1.area)/\W.cell? ⟨b,off+k*8+1,none⟩=some (.int .i64 p.1.kind)/\W.cell? ⟨b,off+k*8+2,none⟩=some (.int .i64 p.1.owner)/\W.cell? ⟨b,off+k*8+3,none⟩=some (.int .i64 p.1.key)/\W.cell? ⟨b,off+k*8+4,none⟩=some (.int .i64 p.1.seq)/\W.cell? ⟨b,off+k*8+5,none⟩=some (.slice pa p.1.near.length pc)/\W.cell? ⟨b,off+k*8+6,none⟩=some (.int .i64 p.1.cost)/\W.cell? ⟨b,off+k*8+7,none⟩=some (.bool p.1.far)/\W.cell? ⟨w.heap.size,0,none⟩=some (.int .i64 r.1.area)/\W.cell? ⟨w.heap.size,1,none⟩=some (.int .i64 r.1.kind)/\W.cell? ⟨w.heap.size,2,none⟩=some (.int .i64 r.1.owner)/\W.cell? ⟨w.heap.size,3,none⟩=some (.int .i64 r.1.key)/\W.cell? ⟨w.heap.size,4,none⟩=some (.int .i64 r.1.seq)/\W.cell? ⟨w.heap.size,5,none⟩=some (.slice ra r.1.near.length rc)/\W.cell? ⟨w.heap.size,6,none⟩=some (.int .i64 r.1.cost)/\W.cell? ⟨w.heap.size,7,none⟩=some (.bool r.1.far)) (first | go_keep | (refine ⟨?_,?_,?_,?_,?_,?_,?_,?_,?_,?_,?_,?_,?_,?_,?_,?_⟩ <;> (rw [hbc.cell (by assumption)];assumption))) (first | (go_at_call 83;refine (HK.out _).mono ?_;rintro e w1 ⟨rfl,hbc⟩))
    have B1:Below w0.heap.size w0 w1:=hnx.trans ((Below.refl _ _).drew.trans (hbc.mono hsz));have OW1:=hide (Zah OW.out ((Below.refl wr.heap.size wr).drew.trans hbc) (Nat.le_refl _));have HFT2:=hide (show l=(ps.take (k+1)).filter (fun p=>Zan p.1 r.1) by rw [(HL).out,HFT.out];simp)
    go_wp2
    go_roundw
    case rel=>exact ⟨k+1,_,_,by omega,by go_num,rfl,HFT2,OW1.out,B1⟩
    case measure=>simp [intOf];omega
   ·go_wp2
    go_region_held3 (fun W=>W.cell? ⟨b,off+k*8,none⟩=some (.int .i64 p.1.area)/\W.cell? ⟨b,off+k*8+1,none⟩=some (.int .i64 p.1.kind)/\W.cell? ⟨b,off+k*8+2,none⟩=some (.int .i64 p.1.owner)/\W.cell? ⟨b,off+k*8+3,none⟩=some (.int .i64 p.1.key)/\W.cell? ⟨b,off+k*8+4,none⟩=some (.int .i64 p.1.seq)/\W.cell? ⟨b,off+k*8+5,none⟩=some (.slice pa p.1.near.length pc)/\W.cell? ⟨b,off+k*8+6,none⟩=some (.int .i64 p.1.cost)/\W.cell? ⟨b,off+k*8+7,none⟩=some (.bool p.1.far)/\W.cell? ⟨w.heap.size,0,none⟩=some (.int .i64 r.1.area)/\W.cell? ⟨w.heap.size,1,none⟩=some (.int .i64 r.1.kind)/\W.cell? ⟨w.heap.size,2,none⟩=some (.int .i64 r.1.owner)/\W.cell? ⟨w.heap.size,3,none⟩=some (.int .i64 r.1.key)/\W.cell? ⟨w.heap.size,4,none⟩=some (.int .i64 r.1.seq)/\W.cell? ⟨w.heap.size,5,none⟩=some (.slice ra r.1.near.length rc)/\W.cell? ⟨w.heap.size,6,none⟩=some (.int .i64 r.1.cost)/\W.cell? ⟨w.heap.size,7,none⟩=some (.bool r.1.far)) (first | go_keep | (refine ⟨?_,?_,?_,?_,?_,?_,?_,?_,?_,?_,?_,?_,?_,?_,?_,?_⟩ <;> (rw [hbc.cell (by assumption)];assumption))) (first | (go_at_call 83;refine (HK.out _).mono ?_;rintro e w1 ⟨rfl,hbc⟩))
    have B1:Below w0.heap.size w0 w1:=hnx.trans ((Below.refl _ _).drew.trans (hbc.mono hsz));have OW1:=hide (Zah OW.out ((Below.refl wr.heap.size wr).drew.trans hbc) (Nat.le_refl _));have b1s:=B1.size;have m0:=(hbc.cell (p:=⟨b,off+k*8,none⟩) hb1).trans c0;have m1:=(hbc.cell (p:=⟨b,off+k*8+1,none⟩) hb1).trans c1;have m2:=(hbc.cell (p:=⟨b,off+k*8+2,none⟩) hb1).trans c2;have m3:=(hbc.cell (p:=⟨b,off+k*8+3,none⟩) hb1).trans c3;have m4:=(hbc.cell (p:=⟨b,off+k*8+4,none⟩) hb1).trans c4;have m5:=(hbc.cell (p:=⟨b,off+k*8+5,none⟩) hb1).trans c5;have m6:=(hbc.cell (p:=⟨b,off+k*8+6,none⟩) hb1).trans c6;have m7:=(hbc.cell (p:=⟨b,off+k*8+7,none⟩) hb1).trans c7;have HFT2:=hide (show l++[(p.1,.slice pa p.1.near.length pc)]=(ps.take (k+1)).filter (fun p=>Zan p.1 r.1) by rw [(HL).out,HFT.out, <-HPE.out];simp)
    go_wp2_with (first
     | (at_builtin;refine ZaN ZaK (by omega) (by omega) _ rfl _ _ 29 rfl (w.heap.size+1) 40 Tryz.underlying29 (.agg (recC Zbe (.slice none 0 0))) rfl Tryz.infoRec _ (l) (p.1,.slice pa p.1.near.length pc) (Zbm _ _ _ _) rfl (OW1.out.alloc _) ⟨w1.heap.size,0,none⟩ 1 rfl (Zar (cs:=encP (p.1,.slice pa p.1.near.length pc))) (by have:=HQL.out;omega) (by simp;omega) ?_))
    intro v' w4 hown' hgrow;obtain⟨va,vc,rfl⟩:=Zac hown';have B4:Below w0.heap.size w0 w4:=(B1.alloc b1s _).grown hgrow (by simp;omega) (fun j hj=>by have:=(OW1.out.lt j hj).1;omega)
    have OW4:=hide hown';clear hown' hgrow
    go_wp2
    go_roundw
    case rel=>exact ⟨k+1,_,_,by omega,by go_num,rfl,HFT2,by simpa using OW4.out,B4⟩
    case measure=>simp [intOf];omega
  ·have hkn:k=ps.length:=by omega
   have htk:ps.take k=ps:=by rw [hkn,List.take_length]
   rw [htk] at HL;have OW:=hide hown;clear hown hkn htk;have hxx:=(hnx.block _ (Zab HX.out)).trans HX.out;have d0:=Zaa hxx 0;have d1:=Zaa hxx 1;have d2:=Zaa hxx 2;have d3:=Zaa hxx 3;have d4:=Zaa hxx 4;have d5:=Zaa hxx 5;have d6:=Zaa hxx 6;have d7:=Zaa hxx 7;simp at d0 d1 d2 d3 d4 d5 d6 d7
   clear hxx
   go_wp2_with (first
    | (at_builtin;refine ZaN ZaK (by omega) (by omega) _ rfl _ _ 29 rfl (w.heap.size+1) 40 Tryz.underlying29 (.agg (recC Zbe (.slice none 0 0))) rfl Tryz.infoRec _ (l) (r.1,.slice ra r.1.near.length rc) (Zbm _ _ _ _) rfl (OW.out.alloc _) ⟨wr.heap.size,0,none⟩ 1 rfl (Zar (cs:=encP (r.1,.slice ra r.1.near.length rc))) (by have:=HQL.out;omega) (by simp;omega) ?_))
   intro v' w4 hown' hgrow;obtain⟨va,vc,rfl⟩:=Zac hown';have B2:=hide ((hnx.alloc hsz _).grown hgrow (by simp;omega) (fun j hj=>by have:=(OW.out.lt j hj).1;omega))
   have HRE:=hide (show r=(r.1,.slice ra r.1.near.length rc) from Prod.ext rfl HRN.out)
   have R2:=hide hown';clear hown' hgrow HQL d0 d1 d2 d3 d4 d5 d6 d7 OW hnx hsz BWR
   go_wp2
   go_loopw [7,5] (fun i o wr=>∃ (k:Nat) (u:Value) (l:List RP),k<=ps.length/\i=.int .i64 k/\o=u/\Hid (l=ps.filter (fun p=>Zan p.1 r.1)++[r]++(ps.take k).filter (fun p=>Zan r.1 p.1))/\wr.ownsRow (w.heap.size+1) 40 8 u l.length (flat encP l)/\Below w0.heap.size w0 wr) (fun i _ _=>ps.length-(intOf i).toNat)
   case atStart=>exact ⟨0,_,l++[(r.1,.slice ra r.1.near.length rc)],by omega,rfl,rfl,(hide (by rw [HL.out, <-HRE.out];simp)),by simpa using R2.out,B2.out⟩
   case round=>
    obtain⟨k,u,m,hk,rfl,rfl,HM,hown,hnx⟩:=hrel;obtain⟨ua,uc,rfl⟩:=Zac hown;have hsz:=hnx.size;have BWR:Below w.heap.size w wr:=BX.trans (hnx.mono (by omega))
    have HQL:=hide (show m.length<=2097153 by rw [(HM).out];have h1:=List.length_filter_le (fun p:RP=>Zan p.1 r.1) ps;have h2:=List.length_filter_le (fun p:RP=>Zan r.1 p.1) (ps.take k);simp at h1 h2 |-;omega)
    by_cases hlt:k<ps.length
    ·obtain ⟨p,hp⟩:∃ p,ps[k]? = some p:=⟨ps[k],List.getElem?_eq_getElem hlt⟩
     have hat:=HV.out.at;obtain⟨b,off,cap',hve,hbb,c0,c1,c2,c3,c4,c5,c6,c7,hnr⟩:=hat.cells k p hp;cases hve
     obtain⟨pa,pc,hpn⟩:=ZaA.shape hnr;rw [hpn] at c5;rw [<-BWR.cell (p:=⟨b,off+k*8,none⟩) (Nat.lt_of_lt_of_le hbb hhi)] at c0;rw [<-BWR.cell (p:=⟨b,off+k*8+1,none⟩) (Nat.lt_of_lt_of_le hbb hhi)] at c1;rw [<-BWR.cell (p:=⟨b,off+k*8+2,none⟩) (Nat.lt_of_lt_of_le hbb hhi)] at c2;rw [<-BWR.cell (p:=⟨b,off+k*8+3,none⟩) (Nat.lt_of_lt_of_le hbb hhi)] at c3;rw [<-BWR.cell (p:=⟨b,off+k*8+4,none⟩) (Nat.lt_of_lt_of_le hbb hhi)] at c4;rw [<-BWR.cell (p:=⟨b,off+k*8+5,none⟩) (Nat.lt_of_lt_of_le hbb hhi)] at c5;rw [<-BWR.cell (p:=⟨b,off+k*8+6,none⟩) (Nat.lt_of_lt_of_le hbb hhi)] at c6;rw [<-BWR.cell (p:=⟨b,off+k*8+7,none⟩) (Nat.lt_of_lt_of_le hbb hhi)] at c7;have hxx:=(hnx.block _ (Zab HX.out)).trans HX.out;have d0:=Zaa hxx 0;have d1:=Zaa hxx 1;have d2:=Zaa hxx 2;have d3:=Zaa hxx 3;have d4:=Zaa hxx 4;have d5:=Zaa hxx 5;have d6:=Zaa hxx 6;have d7:=Zaa hxx 7;simp at d0 d1 d2 d3 d4 d5 d6 d7
     have hb1:b<wr.heap.size:=by omega
     have hb2:w.heap.size<wr.heap.size:=by omega
     have hki:(0:Int)<=(k:Int):=by omega
     have hkj:(k:Int)<(ps.length:Int):=by omega
     have hq:=fun W=>ZdK r.2 p.2 r.1 p.1 W
     unfold recC at hq;rw [hpn,HRN.out] at hq;have hpe:p=(p.1,.slice pa p.1.near.length pc):=Prod.ext rfl hpn;obtain⟨q,hqq⟩:∃ q,q=Zan r.1 p.1:=⟨_,rfl⟩;rw [<-hqq] at hq;have HK:=hide hq;have hft:=Zdb (fun p=>Zan r.1 p.1) hp
     rw [<-hqq] at hft;have HFT:=hide hft;have HPE:=hide hpe;have OW:=hide hown;clear hq hqq hp hat hxx hnr hpn hft hpe hown;cases q
     ·go_wp2
      go_region_held3 (fun W=>W.cell? ⟨b,off+k*8,none⟩=some (.int .i64 p.1.area)/\W.cell? ⟨b,off+k*8+1,none⟩=some (.int .i64 p.1.kind)/\W.cell? ⟨b,off+k*8+2,none⟩=some (.int .i64 p.1.owner)/\W.cell? ⟨b,off+k*8+3,none⟩=some (.int .i64 p.1.key)/\W.cell? ⟨b,off+k*8+4,none⟩=some (.int .i64 p.1.seq)/\W.cell? ⟨b,off+k*8+5,none⟩=some (.slice pa p.1.near.length pc)/\W.cell? ⟨b,off+k*8+6,none⟩=some (.int .i64 p.1.cost)/\W.cell? ⟨b,off+k*8+7,none⟩=some (.bool p.1.far)/\W.cell? ⟨w.heap.size,0,none⟩=some (.int .i64 r.1.area)/\W.cell? ⟨w.heap.size,1,none⟩=some (.int .i64 r.1.kind)/\W.cell? ⟨w.heap.size,2,none⟩=some (.int .i64 r.1.owner)/\W.cell? ⟨w.heap.size,3,none⟩=some (.int .i64 r.1.key)/\W.cell? ⟨w.heap.size,4,none⟩=some (.int .i64 r.1.seq)/\W.cell? ⟨w.heap.size,5,none⟩=some (.slice ra r.1.near.length rc)/\W.cell? ⟨w.heap.size,6,none⟩=some (.int .i64 r.1.cost)/\W.cell? ⟨w.heap.size,7,none⟩=some (.bool r.1.far)) (first | go_keep | (refine ⟨?_,?_,?_,?_,?_,?_,?_,?_,?_,?_,?_,?_,?_,?_,?_,?_⟩ <;> (rw [hbc.cell (by assumption)];assumption))) (first | (go_at_call 83;refine (HK.out _).mono ?_;rintro e w1 ⟨rfl,hbc⟩))
      have B1:Below w0.heap.size w0 w1:=hnx.trans ((Below.refl _ _).drew.trans (hbc.mono hsz));have OW1:=hide (Zah OW.out ((Below.refl wr.heap.size wr).drew.trans hbc) (Nat.le_refl _));have HFT2:=hide (show m=ps.filter (fun p=>Zan p.1 r.1)++[r]++(ps.take (k+1)).filter (fun p=>Zan r.1 p.1) by rw [(HM).out,HFT.out];simp)
      go_wp2
      go_roundw
      case rel=>exact ⟨k+1,_,_,by omega,by go_num,rfl,HFT2,OW1.out,B1⟩
      case measure=>simp [intOf];omega
     ·go_wp2
      go_region_held3 (fun W=>W.cell? ⟨b,off+k*8,none⟩=some (.int .i64 p.1.area)/\W.cell? ⟨b,off+k*8+1,none⟩=some (.int .i64 p.1.kind)/\W.cell? ⟨b,off+k*8+2,none⟩=some (.int .i64 p.1.owner)/\W.cell? ⟨b,off+k*8+3,none⟩=some (.int .i64 p.1.key)/\W.cell? ⟨b,off+k*8+4,none⟩=some (.int .i64 p.1.seq)/\W.cell? ⟨b,off+k*8+5,none⟩=some (.slice pa p.1.near.length pc)/\W.cell? ⟨b,off+k*8+6,none⟩=some (.int .i64 p.1.cost)/\W.cell? ⟨b,off+k*8+7,none⟩=some (.bool p.1.far)/\W.cell? ⟨w.heap.size,0,none⟩=some (.int .i64 r.1.area)/\W.cell? ⟨w.heap.size,1,none⟩=some (.int .i64 r.1.kind)/\W.cell? ⟨w.heap.size,2,none⟩=some (.int .i64 r.1.owner)/\W.cell? ⟨w.heap.size,3,none⟩=some (.int .i64 r.1.key)/\W.cell? ⟨w.heap.size,4,none⟩=some (.int .i64 r.1.seq)/\W.cell? ⟨w.heap.size,5,none⟩=some (.slice ra r.1.near.length rc)/\W.cell? ⟨w.heap.size,6,none⟩=some (.int .i64 r.1.cost)/\W.cell? ⟨w.heap.size,7,none⟩=some (.bool r.1.far)) (first | go_keep | (refine ⟨?_,?_,?_,?_,?_,?_,?_,?_,?_,?_,?_,?_,?_,?_,?_,?_⟩ <;> (rw [hbc.cell (by assumption)];assumption))) (first | (go_at_call 83;refine (HK.out _).mono ?_;rintro e w1 ⟨rfl,hbc⟩))
      have B1:Below w0.heap.size w0 w1:=hnx.trans ((Below.refl _ _).drew.trans (hbc.mono hsz));have OW1:=hide (Zah OW.out ((Below.refl wr.heap.size wr).drew.trans hbc) (Nat.le_refl _));have b1s:=B1.size;have m0:=(hbc.cell (p:=⟨b,off+k*8,none⟩) hb1).trans c0;have m1:=(hbc.cell (p:=⟨b,off+k*8+1,none⟩) hb1).trans c1;have m2:=(hbc.cell (p:=⟨b,off+k*8+2,none⟩) hb1).trans c2;have m3:=(hbc.cell (p:=⟨b,off+k*8+3,none⟩) hb1).trans c3;have m4:=(hbc.cell (p:=⟨b,off+k*8+4,none⟩) hb1).trans c4;have m5:=(hbc.cell (p:=⟨b,off+k*8+5,none⟩) hb1).trans c5;have m6:=(hbc.cell (p:=⟨b,off+k*8+6,none⟩) hb1).trans c6;have m7:=(hbc.cell (p:=⟨b,off+k*8+7,none⟩) hb1).trans c7;have HFT2:=hide (show m++[(p.1,.slice pa p.1.near.length pc)]=ps.filter (fun p=>Zan p.1 r.1)++[r]++(ps.take (k+1)).filter (fun p=>Zan r.1 p.1) by rw [(HM).out,HFT.out, <-HPE.out];simp)
      go_wp2_with (first
       | (at_builtin;refine ZaN ZaK (by omega) (by omega) _ rfl _ _ 29 rfl (w.heap.size+1) 40 Tryz.underlying29 (.agg (recC Zbe (.slice none 0 0))) rfl Tryz.infoRec _ (m) (p.1,.slice pa p.1.near.length pc) (Zbm _ _ _ _) rfl (OW1.out.alloc _) ⟨w1.heap.size,0,none⟩ 1 rfl (Zar (cs:=encP (p.1,.slice pa p.1.near.length pc))) (by have:=HQL.out;omega) (by simp;omega) ?_))
      intro v' w4 hown' hgrow;obtain⟨va,vc,rfl⟩:=Zac hown';have B4:Below w0.heap.size w0 w4:=(B1.alloc b1s _).grown hgrow (by simp;omega) (fun j hj=>by have:=(OW1.out.lt j hj).1;omega)
      have OW4:=hide hown';clear hown' hgrow
      go_wp2
      go_roundw
      case rel=>exact ⟨k+1,_,_,by omega,by go_num,rfl,HFT2,by simpa using OW4.out,B4⟩
      case measure=>simp [intOf];omega
    ·have hkn:k=ps.length:=by omega
     have htk:ps.take k=ps:=by rw [hkn,List.take_length]
     rw [htk] at HM;have OW:=hide hown;clear hown hkn htk
     go_wp2
     go_ret
     refine⟨_,rfl,⟨?_,fun j hj=>(OW.out.lt j hj).2,?_⟩,BWR,fun j hj=>by have:=(OW.out.lt j hj).1;omega⟩
     ·rw [<-HM.out];exact Zal OW.out (Nat.zero_le _)
     intro q hq;have hmem:q∈ps\/q=r:=by
      rcases List.mem_append.1 hq with h | h
      ·rcases List.mem_append.1 h with h | h
       ·exact .inl ((List.mem_filter.1 h).1)
       ·exact .inr (by simpa using h)
      ·exact .inl ((List.mem_filter.1 h).1)
     have hno:Zat w 0 hi q:=by
      rcases hmem with h | h
      ·exact HV.out.nears q h
      ·rw [h];exact HR.out
     exact (hno.keep (W':=wr) (fun j _ h2 _=>BWR.block j (by omega))).wide (Nat.le_refl _) (by omega)
theorem ZgW (v:Value)(ps:List RP)(hi:Nat)(r:RP)(w:World)(hv:RecsIn w hi v ps)(hhi:hi<=w.heap.size)(hn:tot ps<=1048576)(hr:Zat w 0 hi r):
  Calls Tryz.prog 74 #[v,.agg (recC r.1 r.2)] w fun e w'=>∃ x,e=.returned x/\RecsIn w' w'.heap.size x (putL ps r)/\Below w.heap.size w w':=by
 refine (ZiX v ps hi r w hv hhi hn hr).mono ?_
 rintro e w' ⟨x,h1,h2,h3,_⟩;exact⟨x,h1,h2,h3⟩
end Go.Proofs.YtcimbiinljcifaaGreat
