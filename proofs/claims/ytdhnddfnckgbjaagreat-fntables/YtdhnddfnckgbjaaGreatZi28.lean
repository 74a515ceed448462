/-
  Parts.
-/
import Derived.Test.YtdhnddfnckgbjaaGreatZi27
namespace Go.Proofs.YtdhnddfnckgbjaaGreat
open Go.RowKit
set_option linter.unusedSimpArgs false
set_option linter.unusedVariables false
set_option maxRecDepth 100000
set_option maxHeartbeats 8000000
theorem Zk6 {a b:List LnD}(h:a.Perm b):Zcg a=Zcg b:=by
 unfold Zcg;exact (h.map _).sum_nat
theorem Zmy {a b:List LnD}{n:Nat}(h:∀ x∈b,x.hops.length<=n):∀ t∈Zbn a b,t.line.hops.length<=n:=by
 intro t ht;unfold Zbn at ht;rcases YAH.1 ht with h1 | h1
 ·obtain ⟨x,_,rfl⟩:=YAV.1 h1;simp
 ·obtain ⟨x,hx,rfl⟩:=YAV.1 h1;exact h x (YAT.1 hx).1
theorem Zic (a b:List LnD):(Zbn a b).length<=a.length+b.length:=by
 rw [ZgK];have h1:=Zer a b a.length;have h2:=Zjf a b b.length;omega
theorem fnTables_walk (a:Option Addr)(len cap:Nat)(w:World)(hw:len<=1048576->Code w a len w.heap.size):
  Calls Tryz.prog 3 #[.slice a len cap] w fun e w'=>e=.returned (.bool true)/\Below w.heap.size w w':=by
 have HW:=hide hw;clear hw;by_cases hlen:len<=1048576
 case neg=>
  have HBIG:=hide (Zlk a len cap);rw [YAi (show (1048576:Int)<(len:Int) by omega)] at HBIG
  go_enter Tryz.func3,Tryz.ntmps3
  go_wp2_with fail
  refine (HBIG.out _).mono ?_;rintro e w1 ⟨rfl,rfl⟩;go_wp2;go_ret;exact⟨rfl,YAB _ _⟩
 have HBIG:=hide (Zlk a len cap);rw [YAo (show ¬(1048576:Int)<(len:Int) by omega)] at HBIG;have HC:=hide (HW.out hlen);obtain⟨B,hB⟩:=HC.out.bytes;have HCB:=hide hB;clear HW hB
 go_enter Tryz.func3,Tryz.ntmps3
 go_wp2_with fail
 refine (HBIG.out _).mono ?_;rintro e w0 ⟨rfl,rfl⟩
 go_wp2_with fail
 refine (Zkp a len cap _ HC.out).mono ?_;rintro e w1 ⟨v1,v2,rfl,⟨ps,qs,o1,o2,k1,k2,t1,t2⟩,b1⟩;obtain⟨a1,c1,rfl⟩:=Zac o1.row;obtain⟨a2,c2,rfl⟩:=Zac o2.row;have hs1:=b1.size;have hps:=Zbj ps;have hqs:=Zbj qs;obtain⟨lo,hlo⟩:∃ lo,lo=w.heap.size:=⟨_,rfl⟩;rw [<-hlo] at o1 o2;have hlo1:lo<=w1.heap.size:=by omega
 have HLO:=hide hlo;have O1:=hide o1;have O2:=hide o2;have K1:=hide k1;have K2:=hide k2;have B1:=hide b1;have hps7:ps.length<=7000:=by omega
 have hqs7:qs.length<=7001:=by omega
 have TQ:=hide (show Zcg (Zag qs)<=7001 by rw [<-ZiI];exact t2);clear o1 o2 k1 k2 b1 HC HBIG hlo hps hqs
 go_wp2_with fail
 refine (ZfM lo (.slice a1 ps.length c1) (.slice a2 qs.length c2) ps qs w1 O1.out O2.out K1.out K2.out (by omega) (by omega) hlo1).mono ?_;rintro e w2 ⟨v3,xs,rfl,hx,ox,okx,b2⟩;obtain⟨a3,c3,rfl⟩:=Zac ox;have hs2:=b2.size;have HXL:=hide (show xs.length=(Zbn (Zag ps) (Zag qs)).length by rw [<-hx,YAb]);have hxl:xs.length<=14001:=by
  have h1:=Zic (Zag ps) (Zag qs);have h2:=HXL.out;simp only [Zag,YAb] at h1 h2;omega
 have HTH:=hide (show ∀ x∈xs,x.1.line.hops.length<=1048576 from fun x hxm=>by
  refine YAG (Zmy (a:=Zag ps) (b:=Zag qs) (n:=7001) (fun y hy=>?_) x.1 (by rw [<-hx];exact List.mem_map_of_mem hxm)) (by omega);obtain⟨p,hp,rfl⟩:=YAV.1 hy;have:=ZbO hp;omega)
 have HX:=hide hx;have OX:=hide (Zaf ox hlo1);have OK:=hide okx;have B2:=hide (B1.out.trans (b2.mono hs1));have P2:=hide ((O1.out.below b2 (YA _)).wide (YA _) hs2);have Q2:=hide ((O2.out.below b2 (YA _)).wide (YA _) hs2);clear hx ox okx b2 B1 O1 O2
 go_wp2_with fail
 refine (Zle lo (.slice a1 ps.length c1) (.slice a3 xs.length c3) ps xs w2 P2.out OX.out OK.out HTH.out K1.out (by omega) (by omega)).mono ?_;rintro e w3 ⟨v4,cs,rfl,hcs,oc,b3⟩;obtain⟨a4,c4,rfl⟩:=Zac oc.row;have hs3:=b3.size;have HPM:=hide (show (Zag cs).Perm (Zag qs) by
  rw [hcs,HX.out];have h9:=Zia K1.out K2.out
  rwa [show (Zag ps).length=ps.length by simp [Zag]] at h9)
 have KC:=hide (show ZaP (Zag cs) by rw [hcs];exact ZcC _ _ _ (by rw [ZcL];exact K1.out));have TC:=hide (show totJ cs<=7001 by rw [ZiI,Zk6 HPM.out];exact TQ.out);have hlo2:lo<=w2.heap.size:=by omega
 have OC:=hide (oc.wide hlo2 (YA _));have B3:=hide (B2.out.trans (b3.mono (by have:=HLO.out;omega)));have P3:=hide ((P2.out.below b3 (YA _)).wide (YA _) hs3);have Q3:=hide ((Q2.out.below b3 (YA _)).wide (YA _) hs3);clear hcs oc b3 B2 P2 Q2 OX OK HTH HX
 go_wp2_with fail
 refine (ZgP (.slice a4 cs.length c4) (.slice a2 qs.length c2) cs qs w3 OC.out.at Q3.out.at HPM.out (by have:=TC.out;omega) (by omega)).mono ?_;rintro e w4 ⟨rfl,b4⟩;have hs4:=b4.size;have B4:=hide (B3.out.trans (b4.mono (by have:=HLO.out;omega)));have P4:=hide ((P3.out.below b4 (YA _)).wide (YA _) hs4);have Q4:=hide ((Q3.out.below b4 (YA _)).wide (YA _) hs4);have C4:=hide ((OC.out.below b4 (YA _)).wide (YA _) hs4);clear b4 B3 P3 Q3 OC
 go_wp2_with fail
 refine (Zg5 (.slice a4 cs.length c4) (.slice a2 qs.length c2) cs qs w4 C4.out.at Q4.out.at KC.out K2.out HPM.out (by have:=TC.out;omega) (by omega)).mono ?_;rintro e w5 ⟨rfl,b5⟩;have hs5:=b5.size;have B5:=hide (B4.out.trans (b5.mono (by have:=HLO.out;omega)));have P5:=hide ((P4.out.below b5 (YA _)).wide (YA _) hs5);have Q5:=hide ((Q4.out.below b5 (YA _)).wide (YA _) hs5);clear b5 B4 P4 Q4 C4
 go_wp2_with fail
 refine (ZfM lo (.slice a1 ps.length c1) (.slice a1 ps.length c1) ps ps w5 P5.out P5.out K1.out K1.out (by omega) (by omega) (by omega)).mono ?_;rintro e w6 ⟨v6,zs,rfl,hz,oz,_,b6⟩;rw [Zi0] at hz;have hzn:zs=[]:=List.map_eq_nil_iff.1 hz;subst hzn;obtain⟨a6,c6,rfl⟩:=Zac oz;have hs6:=b6.size;have B6:=hide (B5.out.trans (b6.mono (by have:=HLO.out;omega)));have P6:=hide ((P5.out.below b6 (YA _)).wide (YA _) hs6);have Q6:=hide ((Q5.out.below b6 (YA _)).wide (YA _) hs6);clear b6 B5 P5 Q5 hz oz
 go_wp2_with fail
 refine (ZgP (.slice a1 ps.length c1) (.slice a1 ps.length c1) ps ps w6 P6.out.at P6.out.at (List.Perm.refl _) (by omega) (by omega)).mono ?_;rintro e w7 ⟨rfl,b7⟩;have hs7:=b7.size;have B7:=hide (B6.out.trans (b7.mono (by have:=HLO.out;omega)));have P7:=hide ((P6.out.below b7 (YA _)).wide (YA _) hs7);have Q7:=hide ((Q6.out.below b7 (YA _)).wide (YA _) hs7);clear b7 B6 P6 Q6
 go_wp2_with fail
 refine (ZgL a len cap B w7 (HCB.out.later B7.out)).mono ?_;rintro e w8 ⟨x8,r8,y8,rfl,L8,g8,b8⟩;obtain⟨a8,c8,rfl⟩:∃ a c,x8=.slice a r8.length c:=by obtain ⟨a,c,h,_⟩:=g8.row;exact⟨a,c,h⟩
 have hs8:=b8.size;have G8:=hide g8.weak;have T8:=hide g8.tot;have B8:=hide (B7.out.trans (b8.mono (by have:=HLO.out;omega)));have P8:=hide ((P7.out.below b8 (YA _)).wide (YA _) hs8);have Q8:=hide ((Q7.out.below b8 (YA _)).wide (YA _) hs8);clear b8 B7 P7 Q7 g8
 go_wp2_with fail
 refine (ZkC (.slice a8 r8.length c8) r8 w7.heap.size w8.heap.size w8 G8.out (YA _) (by have:=T8.out;omega)).mono ?_;rintro e w9 ⟨v9,ts,rfl,ht9,o9,b9⟩;obtain⟨a9,c9,rfl⟩:=Zac o9.row;have hs9:=b9.size;have HT9:=hide ht9;have TT9:=hide (show totJ ts<=7000 from YAG (ZhJ ht9) T8.out);have O9:=hide o9;have B9:=hide (B8.out.trans (b9.mono (by have:=HLO.out;omega)));have P9:=hide ((P8.out.below b9 (YA _)).wide (YA _) hs9);have Q9:=hide ((Q8.out.below b9 (YA _)).wide (YA _) hs9);clear b9 B8 P8 Q8 G8 T8 ht9 o9
 go_wp2_with fail
 refine (ZgL a len cap B w9 (HCB.out.later B9.out)).mono ?_;rintro e w10 ⟨x10,r10,y10,rfl,L10,g10,b10⟩;obtain⟨a10,c10,rfl⟩:∃ a c,x10=.slice a r10.length c:=by obtain ⟨a,c,h,_⟩:=g10.row;exact⟨a,c,h⟩
 have hs10:=b10.size;have HRR:=hide (L11R.unique L8.out L10.out).1;have G10:=hide g10.weak;have T10:=hide g10.tot;have B10:=hide (B9.out.trans (b10.mono (by have:=HLO.out;omega)));have P10:=hide ((P9.out.below b10 (YA _)).wide (YA _) hs10);have Q10:=hide ((Q9.out.below b10 (YA _)).wide (YA _) hs10);have O10:=hide ((O9.out.below b10 (YA _)).wide (YA _) hs10);clear b10 B9 P9 Q9 O9 g10 L8 L10
 go_wp2_with fail
 refine (Ze5 (.slice a10 r10.length c10) r10 w9.heap.size w10.heap.size w10 G10.out (YA _) (by have:=T10.out;omega)).mono ?_;rintro e w11 ⟨v11,us,rfl,ht11,o11,b11⟩;obtain⟨a11,c11,rfl⟩:=Zac o11.row;have hs11:=b11.size;have HEQ:=hide (show Zag ts=Zag us by
  rw [HT9.out,ht11];congr 1;have h9:=congrArg (List.map lnR) HRR.out;unfold ZaY at h9;rw [YAa,YAa] at h9;exact h9)
 have KT:=hide (show ZaP (Zag ts) by rw [HT9.out];exact Ze7 _);have TU:=hide (show totJ us<=7000 from YAG (ZhJ ht11) T10.out);have O11:=hide o11;have B11:=hide (B10.out.trans (b11.mono (by have:=HLO.out;omega)));have P11:=hide ((P10.out.below b11 (YA _)).wide (YA _) hs11);have Q11:=hide ((Q10.out.below b11 (YA _)).wide (YA _) hs11);have T11:=hide ((O10.out.below b11 (YA _)).wide (YA _) hs11);have HLT:=hide (show ts.length=us.length by have:=congrArg List.length HEQ.out;simpa [Zag] using this);clear b11 B10 P10 Q10 O10 G10 T10 ht11 o11 HT9 HRR
 go_wp2_with fail
 refine (Zjp (.slice a1 ps.length c1) (.slice a2 qs.length c2) ps qs lo w11 P11.out.at Q11.out K1.out (by omega) (by omega)).mono ?_;rintro e w12 ⟨a12,c12,rfl,b12⟩;have hs12:=b12.size;have B12:=hide (B11.out.trans (b12.mono (by have:=HLO.out;omega)));have T12:=hide ((T11.out.below b12 (YA _)).wide (YA _) hs12);have U12:=hide ((O11.out.below b12 (YA _)).wide (YA _) hs12);rw [<-HXL.out];clear b12 B11 P11 Q11 T11 O11
 go_wp2_with fail
 refine (Zg5 (.slice a9 ts.length c9) (.slice a11 us.length c11) ts us w12 T12.out.at U12.out.at KT.out (by rw [<-HEQ.out];exact KT.out) (by rw [HEQ.out]) (by have:=TT9.out;omega) (by have:=TU.out;omega)).mono ?_;rintro e w13 ⟨rfl,b13⟩;have B13:=hide (B12.out.trans (b13.mono (by have:=HLO.out;omega)));clear b13 B12 T12 U12;rw [HLT.out];go_wp2;go_ret;exact⟨by simp,B13.out⟩
end Go.Proofs.YtdhnddfnckgbjaaGreat
