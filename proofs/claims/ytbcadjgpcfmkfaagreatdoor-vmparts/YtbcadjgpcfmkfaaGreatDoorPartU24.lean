/- RProg; RLow. -/
import Derived.Deep.Light
import Derived.Test.YtbcadjgpcfmkfaaGreatDoorPartU22
import Derived.Test.YtbcadjgpcfmkfaaGreatDoorPartU23
import Derived.Test.YtbcadjgpcfmkfaaGreatDoorPartU9
import Derived.Test.YtbcadjgpcfmkfaaGreatDoorPartU1
set_option maxHeartbeats 0
set_option maxRecDepth 100000
set_option linter.unusedSimpArgs false
namespace Go.Proofs.YtbcadjgpcfmkfaaGreatDoor
open Go Go.RowKit
section
theorem rprogram_any (p:Pz) (sc sw:ai) (w:World) (hP:iq w sc sw p) (hW:WfZ p):
 Calls Tryz.prog 36 #[.agg #[.slice sc.a sc.n sc.c,.slice sw.a sw.n sw.c]] w fun e w'=>e=.returned (.int .i64 (aU p))/\Fr nothing w w':=by
 obtain⟨⟨rs,hrs,kM⟩,hws⟩:=hP;obtain⟨n1,m1⟩:=ay hrs;obtain⟨n2,m2⟩:=ay hws;rw[kM.1] at n1 m1;obtain⟨Es,scn,scc⟩:=sc;obtain⟨swa,swn,swc⟩:=sw;simp only at n1 n2;subst n1 n2;have hF1:Fr nothing w (w.alloc (.cells #[.slice Es p.cs.length scc,.slice swa p.ws.length swc] 25)):=(Fr.refl _ _).alloc _;have ca:=af (Fr.refl nothing (w.alloc (.cells #[.slice Es p.cs.length scc,.slice swa p.ws.length swc] 25))) id;obtain⟨w1,hw1⟩:∃w1,w1=w.alloc (.cells #[.slice Es p.cs.length scc,.slice swa p.ws.length swc] 25):=⟨_,rfl⟩
 rw[<-hw1] at hF1 ca;have c0:=ca.1 0;have c1:=ca.1 1;have cl:=ca.2.2;have HA:=hide (And.intro hrs (And.intro kM hws));have iy:=hide hF1;obtain⟨A1,hA1⟩:∃x,x=w.heap.size:=⟨_,rfl⟩
 have jY:Hid (∀w',Fr nothing w1 w'->w'.cell? ⟨A1,0,none⟩=some (.slice Es p.cs.length scc)/\w'.cell? ⟨A1,1,none⟩=some (.slice swa p.ws.length swc)/\A1<w'.heap.size):=by
  rw[hA1];exact fun w' hf=>⟨(hf.cell (p:=⟨w.heap.size,0,none⟩) cl id).trans c0,(hf.cell (p:=⟨w.heap.size,1,none⟩) cl id).trans c1,Nat.lt_of_lt_of_le cl hf.size⟩
 have Qr:w.alloc (.cells #[.slice Es p.cs.length scc,.slice swa p.ws.length swc] 25)=w1:=hw1.symm;have HW:=hide hW;have HZ:=hide (@iR p);have HPC:Hid (aU p=if El p≠0 then El p else az (iQ p) p.cs):=rfl;have HD:Hid (El p=if p.cs.length=0\/5<p.cs.length then 5 else if 16<p.ws.length then 4 else if az GN p.ws≠0 then az GN p.ws else if Me p 0≠0 then 10 else az Nz p.cs):=rfl;obtain⟨R,hRR⟩:∃x,aU p=x:=⟨_,rfl⟩
 obtain⟨hh,hhh⟩:∃x,El p=x:=⟨_,rfl⟩
 rw[hRR] at HPC⊢;rw[hhh] at HPC HD HZ;have hd:=HD.out;have HBAD:Hid (hh≠0->R=hh):=fun h=>by have:=HPC.out;rw[if_pos h] at this;exact this
 clear ca hrs kM hws hF1 hw1 hW hRR hhh HD
 by_cases h0:p.cs.length=0
 ·rw[if_pos (.inl h0)] at hd;have hR:=HBAD.out (by omega);rw[hd] at hR;subst hR;rw[h0] at c0 Qr⊢
  go_enter Tryz.func36,Tryz.ntmps36
  go_wp2
  go_ret
  exact⟨rfl,iy.out⟩
 have hn0:((p.cs.length:Int)==0)=false:=beq_eq_false_iff_ne.2 (by omega)
 by_cases h5:5<p.cs.length
 ·rw[if_pos (.inr h5)] at hd;have hR:=HBAD.out (by omega);rw[hd] at hR;subst hR
  go_enter Tryz.func36,Tryz.ntmps36
  go_wp2
  go_ret
  exact⟨rfl,iy.out⟩
 rw[if_neg (by omega)] at hd
 by_cases h16:16<p.ws.length
 ·rw[if_pos h16] at hd;have hR:=HBAD.out (by omega);rw[hd] at hR;subst hR
  go_enter Tryz.func36,Tryz.ntmps36
  go_wp2
  go_ret
  exact⟨rfl,iy.out⟩
 rw[if_neg h16] at hd;have Sr:=hide hd;clear hd
 go_enter Tryz.func36,Tryz.ntmps36
 go_wp2
 rw[<-hA1];clear c0 c1 cl Qr hA1
 go_loopw [32,4] (fun i _ wv=>∃(j:Nat),j<=p.ws.length/\i=.int .i64 j/\Hid (Fr nothing w1 wv/\az GN (p.ws.drop j)=az GN p.ws)) (fun i _ _=>p.ws.length-(intOf i).toNat)
 case atStart=>exact⟨0,Nat.zero_le _,rfl,Fr.refl _ _,rfl⟩
 case round=>
  obtain⟨j,hj,rfl,hR⟩:=hrel
  by_cases hjl:j<p.ws.length
  ·have hx:p.ws[j]?=some p.ws[j]:=List.getElem?_eq_getElem hjl;have hxm:p.ws[j]∈p.ws:=List.getElem_mem hjl;have hst:=fH GN p.ws hx;generalize p.ws[j]=x at hx hxm hst;have hxl:=HW.out.w x hxm;obtain⟨ga,oa,e1,MK,ua⟩:=nZ (s:=⟨swa,p.ws.length,swc⟩) HA.out.2.2 hx;simp only at e1;subst e1;have hF:=iy.out.trans hR.out.1;have TY:=Nat.lt_of_lt_of_le MK hF.size;rw[<-hF.cell (p:=⟨ga,_,none⟩) MK id] at ua;rw[hR.out.2] at hst;cases hxw:isWord x with
   |false=>
    have Za:GN x=7:=by unfold GN;rw[hxw];rfl
    have V6:=hide hF;have hRr:R=7:=by
     have:=Sr.out;rw[Za,if_pos (by decide)] at hst;rw[hst,if_pos (by decide)] at this;rw[HBAD.out (by omega)];exact this
    subst hRr;clear hF hx hR hst
    go_wp2_with (go_at_call 61;refine(BR x wr hxl).mono ?_;rintro e w2 ⟨rfl,hw2⟩;rw[hw2,hxw];clear hw2)
    go_ret
    exact⟨rfl,V6.out⟩
   |true=>
    have Za:GN x=0:=by unfold GN;rw[hxw];rfl
    rw[Za,if_neg (by simp)] at hst;have HN:Hid (Fr nothing w1 wr/\az GN (p.ws.drop (j+1))=az GN p.ws):=⟨hR.out.1,hst.symm⟩;clear hF hx hR hst
    go_wp2_with (go_at_call 61;refine(BR x wr hxl).mono ?_;rintro e w2 ⟨rfl,hw2⟩;rw[hw2,hxw];clear hw2)
    go_roundw
    case rel=>exact⟨j+1,by omega,by go_num,HN.out⟩
    case measure=>simp[intOf];omega
  ·have hw0:az GN p.ws=0:=by rw[<-hR.out.2];exact gP _ _ (by omega)
   have hd:=Sr.out;rw[hw0,if_neg (by simp)] at hd;have hx0:p.cs[0]?=some (p.cs[0]'(by omega)):=List.getElem?_eq_getElem _;have hr0:rs[0]?=some (rs[0]'(by rw[HA.out.2.1.1];omega)):=List.getElem?_eq_getElem _
   generalize p.cs[0]'(by omega)=x at hx0;generalize rs[0]'(by rw[HA.out.2.1.1];omega)=xa at hr0
   have hnp:Me p 0=x.np:=by simp[Me,hx0]
   rw[hnp] at hd;have hxo:=HA.out.2.1.2 0 xa x hr0 hx0;obtain⟨ga,oa,e1,MK,ua,ua1,ua2⟩:=fB (s:=⟨Es,p.cs.length,scc⟩) HA.out.1 hr0;simp only at e1;subst e1;have hF:=iy.out.trans hR.out.1;have TY:=Nat.lt_of_lt_of_le MK hF.size;rw[<-hF.cell (p:=⟨ga,_,none⟩) MK id] at ua;rw[hxo.np] at ua;obtain⟨c0,c1,cl⟩:=jY.out _ hR.out.1;obtain⟨w3,hw3⟩:∃x,x=wr:=⟨_,rfl⟩
   subst hw3;simp only[Nat.zero_mul,Nat.add_zero] at ua;have V6:=hide hF;have HRF:=hide hR.out.1;clear hxo hx0 hr0 ua1 ua2 hF hnp hw0 hR
   by_cases hz:x.np=0
   case neg=>
    rw[if_pos hz] at hd;have hzb:(x.np !=0)=true:=by simpa using hz
    have hRr:R=10:=by rw[HBAD.out (by omega)];exact hd
    subst hRr
    go_wp2_with fail
    go_ret
    exact⟨rfl,V6.out⟩
   rw[if_neg (by simpa using hz)] at hd;have HDE:=hide hd;rw[hz] at ua;clear hd hz
   go_wp2_with fail
   clear c0 c1 cl ua TY MK
   go_loopw [49,6] (fun i _ wv=>∃(k:Nat),k<=p.cs.length/\i=.int .i64 k/\Hid (Fr nothing w1 wv/\az Nz (p.cs.drop k)=az Nz p.cs)) (fun i _ _=>p.cs.length-(intOf i).toNat)
   case atStart=>exact⟨0,Nat.zero_le _,rfl,HRF.out,rfl⟩
   case round=>
    obtain⟨k,hk,rfl,hRk⟩:=hrel
    by_cases hkl:k<p.cs.length
    ·have hx:p.cs[k]?=some p.cs[k]:=List.getElem?_eq_getElem hkl;have hst:=fH Nz p.cs hx;have hra:rs[k]?=some (rs[k]'(by rw[HA.out.2.1.1];omega)):=List.getElem?_eq_getElem _
     generalize p.cs[k]=y at hx hst;generalize rs[k]'(by rw[HA.out.2.1.1];omega)=xa at hra
     obtain⟨p1,p2,p3⟩:=HA.out.2.1.2 k xa y hra hx;obtain⟨gb,ob,e1,Qu,ub,Su,Sv⟩:=fB (s:=⟨some ⟨ga,oa,none⟩,p.cs.length,scc⟩) HA.out.1 hra;simp only[Option.some.injEq,Addr.mk.injEq,and_true] at e1;obtain⟨rfl,rfl⟩:=e1;obtain⟨q1,q2⟩:=ay p3;obtain⟨xa1,xa2,⟨xaa,xan,xac⟩⟩:=xa;simp only at p1 p2 q1 ub Su Sv;subst p1 p2 q1;have hF:=iy.out.trans hRk.out.1;have TY:=Nat.lt_of_lt_of_le Qu hF.size;rw[<-hF.cell (p:=⟨ga,_,none⟩) Qu id] at ub Su Sv;have hRn:Fr nothing w1 (wr.alloc (.cells #[.int .i64 y.np,.int .i64 y.nv,.slice xaa y.ins.length xac] 79)):=hRk.out.1.alloc _;have ni:=hide (iy.out.trans hRn);rw[hRk.out.2] at hst;have HST:=hide hst;have TZ:Hid (jE y=true->R=3):=fun h=>by
      have hde:Nz y=3:=by unfold Nz;rw[if_pos h]
      have h1:=HST.out;rw[hde,if_pos (by decide)] at h1;have h2:=HDE.out.trans h1;rw[HBAD.out (by omega),h2]
     have TV:=hide hRn;clear hx hra p3 hF hst hRn hRk
     by_cases b1:y.np<0
     ·have fE:=TZ.out (by unfold jE;exact decide_eq_true (by omega));subst fE
      go_wp2_with fail
      go_ret
      exact⟨rfl,ni.out⟩
     by_cases b2:4<y.np
     ·have fE:=TZ.out (by unfold jE;exact decide_eq_true (by omega));subst fE
      go_wp2_with fail
      go_ret
      exact⟨rfl,ni.out⟩
     by_cases b3:y.nv<y.np
     ·have fE:=TZ.out (by unfold jE;exact decide_eq_true (by omega));subst fE
      go_wp2_with fail
      go_ret
      exact⟨rfl,ni.out⟩
     by_cases b4:8<y.nv
     ·have fE:=TZ.out (by unfold jE;exact decide_eq_true (by omega));subst fE
      go_wp2_with fail
      go_ret
      exact⟨rfl,ni.out⟩
     by_cases b5:y.ins.length=0
     ·have fE:=TZ.out (by unfold jE;exact decide_eq_true (by omega));subst fE;have b5':((y.ins.length:Int)==0)=true:=by rw[b5];rfl
      go_wp2_with fail
      go_ret
      exact⟨rfl,by rw[b5] at ni;exact ni.out⟩
     have b5':((y.ins.length:Int)==0)=false:=beq_eq_false_iff_ne.2 (by omega)
     by_cases b6:200<y.ins.length
     ·have fE:=TZ.out (by unfold jE;exact decide_eq_true (by omega));subst fE;have b6':(200:Int)<(y.ins.length:Int):=by omega
      go_wp2_with fail
      go_ret
      exact⟨rfl,ni.out⟩
     have b6':¬(200:Int)<(y.ins.length:Int):=by omega
     have HN:Hid (az Nz (p.cs.drop (k+1))=az Nz p.cs):=by
      have hde:Nz y=0:=by unfold Nz jE;rw[if_neg (by simp only[decide_eq_true_eq];omega)]
      have h1:=HST.out;rw[hde,if_neg (by simp)] at h1;exact h1.symm
     go_wp2_with fail
     go_roundw
     case rel=>exact⟨k+1,by omega,by go_num,TV.out,HN.out⟩
     case measure=>simp[intOf];omega
    ·have hhz:hh=0:=by rw[HDE.out,<-hRk.out.2];exact gP _ _ (by omega)
     obtain⟨c0,c1,cl⟩:=jY.out _ hRk.out.1;have HRK:=hide hRk.out.1;obtain⟨w4,hw4⟩:∃x,x=wr:=⟨_,rfl⟩
     subst hw4;have HG4:=hide (HZ.out hhz).2.2.2.2.2;have HDF:Hid (R=az (iQ p) p.cs):=by have:=HPC.out;rw[if_neg (by simpa using hhz)] at this;exact this
     clear hRk hhz
     go_wp2_with fail
     clear c0 c1 cl
     go_loopw [89,8,10,11,12,13,14] (fun i _ _ _ _ _ _ wv=>∃(k:Nat),k<=p.cs.length/\i=.int .i64 k/\Hid (Fr nothing w1 wv/\az (iQ p) (p.cs.drop k)=az (iQ p) p.cs)) (fun i _ _ _ _ _ _ _=>p.cs.length-(intOf i).toNat)
     case atStart=>exact⟨0,Nat.zero_le _,rfl,HRK.out,rfl⟩
     case round=>
      obtain⟨k,hk,rfl,hRk⟩:=hrel;obtain⟨BS,Ah⟩:=hRk.out
      by_cases hkl:k<p.cs.length
      ·have hx:p.cs[k]?=some p.cs[k]:=List.getElem?_eq_getElem hkl;have hxm:p.cs[k]∈p.cs:=List.getElem_mem hkl;have hst:=fH (iQ p) p.cs hx;have hra:rs[k]?=some (rs[k]'(by rw[HA.out.2.1.1];omega)):=List.getElem?_eq_getElem _
       generalize p.cs[k]=x at hx hxm hst;generalize rs[k]'(by rw[HA.out.2.1.1];omega)=xa at hra
       have hco:=HG4.out x hxm;have hwf:=HW.out.c x hxm;obtain⟨p1,p2,p3⟩:=HA.out.2.1.2 k xa x hra hx;obtain⟨gb,ob,e1,Qu,ub,Su,Sv⟩:=fB (s:=⟨some ⟨ga,oa,none⟩,p.cs.length,scc⟩) HA.out.1 hra;simp only[Option.some.injEq,Addr.mk.injEq,and_true] at e1;obtain⟨rfl,rfl⟩:=e1;obtain⟨q1,q2⟩:=ay p3;obtain⟨xa1,xa2,⟨xaa,xan,xac⟩⟩:=xa;simp only at p1 p2 q1 ub Su Sv;subst p1 p2 q1;have hF:=iy.out.trans BS;have TY:=Nat.lt_of_lt_of_le Qu hF.size;rw[<-hF.cell (p:=⟨ga,_,none⟩) Qu id] at ub Su Sv;rw[Ah] at hst;have qL:Fr nothing wr (wr.alloc (.cells #[.int .i64 x.np,.int .i64 x.nv,.slice xaa x.ins.length xac] 79)):=(Fr.refl _ _).alloc _;have hm4:=af (Fr.refl nothing (wr.alloc (.cells #[.int .i64 x.np,.int .i64 x.nv,.slice xaa x.ins.length xac] 79))) id;have lJ:=hide hm4;have gX:Hid (Fr nothing w1 (wr.alloc (.cells #[.int .i64 x.np,.int .i64 x.nv,.slice xaa x.ins.length xac] 79))):=BS.trans qL;have HST:Hid (az (iQ p) p.cs=if iQ p x≠0 then iQ p x else az (iQ p) (p.cs.drop (k+1))):=hst;have Qv:=hide p3;have HCO:=hide hco;have HWF:=hide hwf;have hln:x.ins.length<=200:=hco.2.2.2.2.2;have hnv:0<=x.nv/\x.nv<=8:=by omega
       clear hx hxm hra p3 hF hst hm4 qL hRk BS Ah hco hwf
       go_wp2_with fail
       generalize wr.alloc (.cells #[.int .i64 x.np,.int .i64 x.nv,.slice xaa x.ins.length xac] 79)=w4 at*;obtain⟨cb,hcb⟩:∃x,x=wr.heap.size:=⟨_,rfl⟩
       rw[<-hcb] at lJ;rw[<-hcb];clear hcb ub Su Sv TY
       go_loopw [96,10,11,12] (fun i _ _ _ wv=>∃(j:Nat),j<=x.ins.length/\i=.int .i64 j/\Hid (Fr nothing w4 wv/\az (CX p x) (x.ins.drop j)=az (CX p x) x.ins)) (fun i _ _ _ _=>x.ins.length-(intOf i).toNat)
       case atStart=>exact⟨0,Nat.zero_le _,rfl,Fr.refl _ _,rfl⟩
       case round=>
        obtain⟨j,hj,rfl,hR2⟩:=hrel;obtain⟨gm,he4⟩:=hR2.out;have cA:=jY.out _ (gX.out.trans gm);obtain⟨MI,ND,cAl⟩:=cA;have cD0:=(gm.cell (p:=⟨cb,0,none⟩) lJ.out.2.2 id).trans (lJ.out.1 0);have cD1:=(gm.cell (p:=⟨cb,1,none⟩) lJ.out.2.2 id).trans (lJ.out.1 1);have cD2:=(gm.cell (p:=⟨cb,2,none⟩) lJ.out.2.2 id).trans (lJ.out.1 2);have cDl:=Nat.lt_of_lt_of_le lJ.out.2.2 gm.size;have qy:=iy.out.trans (gX.out.trans gm)
        by_cases hjl:j<x.ins.length
        ·have hy:x.ins[j]?=some x.ins[j]:=List.getElem?_eq_getElem hjl;have hym:x.ins[j]∈x.ins:=List.getElem_mem hjl;have JG:=fH (CX p x) x.ins hy;generalize x.ins[j]=y at hy hym JG;have hwy:=HWF.out.2.2 y hym;obtain⟨ia,ja,e1,dia,v0,v1,v2⟩:=iB (s:=⟨xaa,x.ins.length,xac⟩) Qv.out hy;simp only at e1;subst e1;have egi:=Nat.lt_of_lt_of_le dia qy.size;rw[<-qy.cell (p:=⟨ia,_,none⟩) dia id] at v0 v1 v2;rw[he4] at JG;obtain⟨op,a,b⟩:=y;simp only at v0 v1 v2;have hm:=af (Fr.refl nothing (wr.alloc (.cells #[.int .i64 op,.int .i64 a,.int .i64 b] 82))) id;have qL:Fr nothing wr (wr.alloc (.cells #[.int .i64 op,.int .i64 a,.int .i64 b] 82)):=(Fr.refl _ _).alloc _;have nO:=hide (qy.trans qL);have dL:=hide qL;have aX:Hid (Fr nothing w4 (wr.alloc (.cells #[.int .i64 op,.int .i64 a,.int .i64 b] 82))):=gm.trans qL;have i0:=hm.1 0;have i1:=hm.1 1;have i2:=hm.1 2;have il:=hm.2.2;have HS2:=hide JG;have bV:Hid (∀er,CX p x ⟨op,a,b⟩=er->er≠0->R=er):=fun er h1 h2=>by
          have h3:=HS2.out;rw[h1,if_pos h2] at h3;have h4:iQ p x=er:=by unfold iQ;rw[h3,if_pos h2]
          rw[HDF.out,HST.out,h4,if_pos h2]
         have nH:Hid (CX p x ⟨op,a,b⟩=0->az (CX p x) (x.ins.drop (j+1))=az (CX p x) x.ins):=fun h1=>by
          have h3:=HS2.out;rw[h1,if_neg (by simp)] at h3;exact h3.symm
         have jT:CX p x ⟨op,a,b⟩=if op<1\/19<op then 1 else if a<DR op\/DT p x op<a then 3 else if b≠bC p ⟨op,a,b⟩ then 3 else 0:=rfl;clear hy hym hR2 gm he4 qy qL JG hm HS2
         by_cases o1:op<1
         ·have hR1:=bV.out 1 (by rw[jT,if_pos (.inl o1)]) (by decide);subst hR1
          go_wp2_with fail
          go_ret
          exact⟨rfl,nO.out⟩
         by_cases o19:19<op
         ·have hR1:=bV.out 1 (by rw[jT,if_pos (.inr o19)]) (by decide);subst hR1
          go_wp2_with fail
          go_ret
          exact⟨rfl,nO.out⟩
         rw[if_neg (by omega)] at jT
         by_cases k1:op=1
         ·as_aux_lemma=>
           subst k1;have e1:DR 1=-1073741824:=rfl;have e2:DT p x 1=1073741824:=rfl;have e3:bC p ⟨1,a,b⟩=0:=rfl;rw[e1,e2,e3] at jT;clear e1 e2 e3
           by_cases ha:a< -1073741824
           ·have fE:=bV.out 3 (by rw[jT];exact if_pos (.inl ha)) (by decide);subst fE
            go_wp2_with fail
            refine ic 1 a b (-1073741824) (1073741824) _ A1 _ i0 i1 i2 (by omega) (fun _ _ _ _ _ h=>h) ?_
            intros
            go_wp2_with fail
            go_ret
            exact⟨rfl,nO.out.drew⟩
           by_cases hb:1073741824<a
           ·have fE:=bV.out 3 (by rw[jT];exact if_pos (.inr hb)) (by decide);subst fE
            go_wp2_with fail
            refine fO 1 a b (-1073741824) (1073741824) _ A1 _ i0 i1 i2 (by omega) (by omega) (fun _ _ _ _ _ h=>h) ?_
            intros
            go_wp2_with fail
            go_ret
            exact⟨rfl,nO.out.drew⟩
           by_cases hc:b≠0
           ·have fE:=bV.out 3 (by rw[jT];rw[if_neg (by omega)];exact if_pos hc) (by decide);subst fE
            go_wp2_with fail
            refine bD 1 a b (-1073741824) (1073741824) _ A1 _ i0 i1 i2 (by omega) (by omega) (by decide) true (by simpa using hc) (fun _ _ _ _ _ h=>h) ?_
            intros
            go_wp2_with fail
            go_ret
            exact⟨rfl,nO.out.drew⟩
           have hc0:b=0:=Classical.not_not.1 hc;have sG:=hide (nH.out (by rw[jT,if_neg (by omega),if_neg hc]));subst hc0
           go_wp2_with fail
           refine bD 1 a 0 (-1073741824) (1073741824) _ A1 _ i0 i1 i2 (by omega) (by omega) (by decide) false rfl (fun _ _ _ _ _ h=>h) ?_
           intros
           go_wp2_with fail
           go_roundw
           case rel=>exact⟨j+1,by omega,by go_num,aX.out.drew,sG.out⟩
           case measure=>simp[intOf];omega
         have k1b:(op==1)=false:=by simpa using k1
         by_cases k2:op=2
         ·as_aux_lemma=>
           subst k2;have e1:DR 2=0:=rfl;have e2:DT p x 2=(p.ws.length:Int)-1:=rfl;have e3:bC p ⟨2,a,b⟩=0:=rfl;rw[e1,e2,e3] at jT;clear e1 e2 e3;have hN1:IntKind.i64.wrap ((p.ws.length:Int)-1)=(p.ws.length:Int)-1:=aO _ (by omega) (by omega)
           by_cases ha:a<0
           ·have fE:=bV.out 3 (by rw[jT];exact if_pos (.inl ha)) (by decide);subst fE
            go_wp2_with fail
            refine ic 2 a b (0) ((p.ws.length:Int)-1) _ A1 _ i0 i1 i2 (by omega) (fun _ _ _ _ _ h=>h) ?_
            intros
            go_wp2_with fail
            go_ret
            exact⟨rfl,nO.out.drew⟩
           by_cases hb:(p.ws.length:Int)-1<a
           ·have fE:=bV.out 3 (by rw[jT];exact if_pos (.inr hb)) (by decide);subst fE
            go_wp2_with fail
            refine fO 2 a b (0) ((p.ws.length:Int)-1) _ A1 _ i0 i1 i2 (by omega) (by omega) (fun _ _ _ _ _ h=>h) ?_
            intros
            go_wp2_with fail
            go_ret
            exact⟨rfl,nO.out.drew⟩
           by_cases hc:b≠0
           ·have fE:=bV.out 3 (by rw[jT];rw[if_neg (by omega)];exact if_pos hc) (by decide);subst fE
            go_wp2_with fail
            refine bD 2 a b (0) ((p.ws.length:Int)-1) _ A1 _ i0 i1 i2 (by omega) (by omega) (by decide) true (by simpa using hc) (fun _ _ _ _ _ h=>h) ?_
            intros
            go_wp2_with fail
            go_ret
            exact⟨rfl,nO.out.drew⟩
           have hc0:b=0:=Classical.not_not.1 hc;have sG:=hide (nH.out (by rw[jT,if_neg (by omega),if_neg hc]));subst hc0
           go_wp2_with fail
           refine bD 2 a 0 (0) ((p.ws.length:Int)-1) _ A1 _ i0 i1 i2 (by omega) (by omega) (by decide) false rfl (fun _ _ _ _ _ h=>h) ?_
           intros
           go_wp2_with fail
           go_roundw
           case rel=>exact⟨j+1,by omega,by go_num,aX.out.drew,sG.out⟩
           case measure=>simp[intOf];omega
         have k2b:(op==2)=false:=by simpa using k2
         by_cases k3:op=3
         ·as_aux_lemma=>
           subst k3;have e1:DR 3=0:=rfl;have e2:DT p x 3=x.nv-1:=rfl;have e3:bC p ⟨3,a,b⟩=0:=rfl;rw[e1,e2,e3] at jT;clear e1 e2 e3;have hN1:IntKind.i64.wrap (x.nv-1)=x.nv-1:=aO _ (by omega) (by omega)
           by_cases ha:a<0
           ·have fE:=bV.out 3 (by rw[jT];exact if_pos (.inl ha)) (by decide);subst fE
            go_wp2_with fail
            refine ic 3 a b (0) (x.nv-1) _ A1 _ i0 i1 i2 (by omega) (fun _ _ _ _ _ h=>h) ?_
            intros
            go_wp2_with fail
            go_ret
            exact⟨rfl,nO.out.drew⟩
           by_cases hb:x.nv-1<a
           ·have fE:=bV.out 3 (by rw[jT];exact if_pos (.inr hb)) (by decide);subst fE
            go_wp2_with fail
            refine fO 3 a b (0) (x.nv-1) _ A1 _ i0 i1 i2 (by omega) (by omega) (fun _ _ _ _ _ h=>h) ?_
            intros
            go_wp2_with fail
            go_ret
            exact⟨rfl,nO.out.drew⟩
           by_cases hc:b≠0
           ·have fE:=bV.out 3 (by rw[jT];rw[if_neg (by omega)];exact if_pos hc) (by decide);subst fE
            go_wp2_with fail
            refine bD 3 a b (0) (x.nv-1) _ A1 _ i0 i1 i2 (by omega) (by omega) (by decide) true (by simpa using hc) (fun _ _ _ _ _ h=>h) ?_
            intros
            go_wp2_with fail
            go_ret
            exact⟨rfl,nO.out.drew⟩
           have hc0:b=0:=Classical.not_not.1 hc;have sG:=hide (nH.out (by rw[jT,if_neg (by omega),if_neg hc]));subst hc0
           go_wp2_with fail
           refine bD 3 a 0 (0) (x.nv-1) _ A1 _ i0 i1 i2 (by omega) (by omega) (by decide) false rfl (fun _ _ _ _ _ h=>h) ?_
           intros
           go_wp2_with fail
           go_roundw
           case rel=>exact⟨j+1,by omega,by go_num,aX.out.drew,sG.out⟩
           case measure=>simp[intOf];omega
         have k3b:(op==3)=false:=by simpa using k3
         by_cases k4:op=4
         ·as_aux_lemma=>
           subst k4;have e1:DR 4=0:=rfl;have e2:DT p x 4=x.nv-1:=rfl;have e3:bC p ⟨4,a,b⟩=0:=rfl;rw[e1,e2,e3] at jT;clear e1 e2 e3;have hN1:IntKind.i64.wrap (x.nv-1)=x.nv-1:=aO _ (by omega) (by omega)
           by_cases ha:a<0
           ·have fE:=bV.out 3 (by rw[jT];exact if_pos (.inl ha)) (by decide);subst fE
            go_wp2_with fail
            refine ic 4 a b (0) (x.nv-1) _ A1 _ i0 i1 i2 (by omega) (fun _ _ _ _ _ h=>h) ?_
            intros
            go_wp2_with fail
            go_ret
            exact⟨rfl,nO.out.drew⟩
           by_cases hb:x.nv-1<a
           ·have fE:=bV.out 3 (by rw[jT];exact if_pos (.inr hb)) (by decide);subst fE
            go_wp2_with fail
            refine fO 4 a b (0) (x.nv-1) _ A1 _ i0 i1 i2 (by omega) (by omega) (fun _ _ _ _ _ h=>h) ?_
            intros
            go_wp2_with fail
            go_ret
            exact⟨rfl,nO.out.drew⟩
           by_cases hc:b≠0
           ·have fE:=bV.out 3 (by rw[jT];rw[if_neg (by omega)];exact if_pos hc) (by decide);subst fE
            go_wp2_with fail
            refine bD 4 a b (0) (x.nv-1) _ A1 _ i0 i1 i2 (by omega) (by omega) (by decide) true (by simpa using hc) (fun _ _ _ _ _ h=>h) ?_
            intros
            go_wp2_with fail
            go_ret
            exact⟨rfl,nO.out.drew⟩
           have hc0:b=0:=Classical.not_not.1 hc;have sG:=hide (nH.out (by rw[jT,if_neg (by omega),if_neg hc]));subst hc0
           go_wp2_with fail
           refine bD 4 a 0 (0) (x.nv-1) _ A1 _ i0 i1 i2 (by omega) (by omega) (by decide) false rfl (fun _ _ _ _ _ h=>h) ?_
           intros
           go_wp2_with fail
           go_roundw
           case rel=>exact⟨j+1,by omega,by go_num,aX.out.drew,sG.out⟩
           case measure=>simp[intOf];omega
         have k4b:(op==4)=false:=by simpa using k4
         by_cases k5:op=5
         ·as_aux_lemma=>
           subst k5;have e1:DR 5=1:=rfl;have e2:DT p x 5=5:=rfl;have e3:bC p ⟨5,a,b⟩=0:=rfl;rw[e1,e2,e3] at jT;clear e1 e2 e3
           by_cases ha:a<1
           ·have fE:=bV.out 3 (by rw[jT];exact if_pos (.inl ha)) (by decide);subst fE
            go_wp2_with fail
            refine ic 5 a b (1) (5) _ A1 _ i0 i1 i2 (by omega) (fun _ _ _ _ _ h=>h) ?_
            intros
            go_wp2_with fail
            go_ret
            exact⟨rfl,nO.out.drew⟩
           by_cases hb:5<a
           ·have fE:=bV.out 3 (by rw[jT];exact if_pos (.inr hb)) (by decide);subst fE
            go_wp2_with fail
            refine fO 5 a b (1) (5) _ A1 _ i0 i1 i2 (by omega) (by omega) (fun _ _ _ _ _ h=>h) ?_
            intros
            go_wp2_with fail
            go_ret
            exact⟨rfl,nO.out.drew⟩
           by_cases hc:b≠0
           ·have fE:=bV.out 3 (by rw[jT];rw[if_neg (by omega)];exact if_pos hc) (by decide);subst fE
            go_wp2_with fail
            refine bD 5 a b (1) (5) _ A1 _ i0 i1 i2 (by omega) (by omega) (by decide) true (by simpa using hc) (fun _ _ _ _ _ h=>h) ?_
            intros
            go_wp2_with fail
            go_ret
            exact⟨rfl,nO.out.drew⟩
           have hc0:b=0:=Classical.not_not.1 hc;have sG:=hide (nH.out (by rw[jT,if_neg (by omega),if_neg hc]));subst hc0
           go_wp2_with fail
           refine bD 5 a 0 (1) (5) _ A1 _ i0 i1 i2 (by omega) (by omega) (by decide) false rfl (fun _ _ _ _ _ h=>h) ?_
           intros
           go_wp2_with fail
           go_roundw
           case rel=>exact⟨j+1,by omega,by go_num,aX.out.drew,sG.out⟩
           case measure=>simp[intOf];omega
         have k5b:(op==5)=false:=by simpa using k5
         by_cases k15:op=15
         ·as_aux_lemma=>
           subst k15;have e1:DR 15=0:=rfl;have e2:DT p x 15=(x.ins.length:Int)-1:=rfl;have e3:bC p ⟨15,a,b⟩=0:=rfl;rw[e1,e2,e3] at jT;clear e1 e2 e3;have hN1:IntKind.i64.wrap ((x.ins.length:Int)-1)=(x.ins.length:Int)-1:=aO _ (by omega) (by omega)
           by_cases ha:a<0
           ·have fE:=bV.out 3 (by rw[jT];exact if_pos (.inl ha)) (by decide);subst fE
            go_wp2_with fail
            refine ic 15 a b (0) ((x.ins.length:Int)-1) _ A1 _ i0 i1 i2 (by omega) (fun _ _ _ _ _ h=>h) ?_
            intros
            go_wp2_with fail
            go_ret
            exact⟨rfl,nO.out.drew⟩
           by_cases hb:(x.ins.length:Int)-1<a
           ·have fE:=bV.out 3 (by rw[jT];exact if_pos (.inr hb)) (by decide);subst fE
            go_wp2_with fail
            refine fO 15 a b (0) ((x.ins.length:Int)-1) _ A1 _ i0 i1 i2 (by omega) (by omega) (fun _ _ _ _ _ h=>h) ?_
            intros
            go_wp2_with fail
            go_ret
            exact⟨rfl,nO.out.drew⟩
           by_cases hc:b≠0
           ·have fE:=bV.out 3 (by rw[jT];rw[if_neg (by omega)];exact if_pos hc) (by decide);subst fE
            go_wp2_with fail
            refine bD 15 a b (0) ((x.ins.length:Int)-1) _ A1 _ i0 i1 i2 (by omega) (by omega) (by decide) true (by simpa using hc) (fun _ _ _ _ _ h=>h) ?_
            intros
            go_wp2_with fail
            go_ret
            exact⟨rfl,nO.out.drew⟩
           have hc0:b=0:=Classical.not_not.1 hc;have sG:=hide (nH.out (by rw[jT,if_neg (by omega),if_neg hc]));subst hc0
           go_wp2_with fail
           refine bD 15 a 0 (0) ((x.ins.length:Int)-1) _ A1 _ i0 i1 i2 (by omega) (by omega) (by decide) false rfl (fun _ _ _ _ _ h=>h) ?_
           intros
           go_wp2_with fail
           go_roundw
           case rel=>exact⟨j+1,by omega,by go_num,aX.out.drew,sG.out⟩
           case measure=>simp[intOf];omega
         have k15b:(op==15)=false:=by simpa using k15
         by_cases k16:op=16
         ·as_aux_lemma=>
           subst k16;have e1:DR 16=0:=rfl;have e2:DT p x 16=(x.ins.length:Int)-1:=rfl;have e3:bC p ⟨16,a,b⟩=0:=rfl;rw[e1,e2,e3] at jT;clear e1 e2 e3;have hN1:IntKind.i64.wrap ((x.ins.length:Int)-1)=(x.ins.length:Int)-1:=aO _ (by omega) (by omega)
           by_cases ha:a<0
           ·have fE:=bV.out 3 (by rw[jT];exact if_pos (.inl ha)) (by decide);subst fE
            go_wp2_with fail
            refine ic 16 a b (0) ((x.ins.length:Int)-1) _ A1 _ i0 i1 i2 (by omega) (fun _ _ _ _ _ h=>h) ?_
            intros
            go_wp2_with fail
            go_ret
            exact⟨rfl,nO.out.drew⟩
           by_cases hb:(x.ins.length:Int)-1<a
           ·have fE:=bV.out 3 (by rw[jT];exact if_pos (.inr hb)) (by decide);subst fE
            go_wp2_with fail
            refine fO 16 a b (0) ((x.ins.length:Int)-1) _ A1 _ i0 i1 i2 (by omega) (by omega) (fun _ _ _ _ _ h=>h) ?_
            intros
            go_wp2_with fail
            go_ret
            exact⟨rfl,nO.out.drew⟩
           by_cases hc:b≠0
           ·have fE:=bV.out 3 (by rw[jT];rw[if_neg (by omega)];exact if_pos hc) (by decide);subst fE
            go_wp2_with fail
            refine bD 16 a b (0) ((x.ins.length:Int)-1) _ A1 _ i0 i1 i2 (by omega) (by omega) (by decide) true (by simpa using hc) (fun _ _ _ _ _ h=>h) ?_
            intros
            go_wp2_with fail
            go_ret
            exact⟨rfl,nO.out.drew⟩
           have hc0:b=0:=Classical.not_not.1 hc;have sG:=hide (nH.out (by rw[jT,if_neg (by omega),if_neg hc]));subst hc0
           go_wp2_with fail
           refine bD 16 a 0 (0) ((x.ins.length:Int)-1) _ A1 _ i0 i1 i2 (by omega) (by omega) (by decide) false rfl (fun _ _ _ _ _ h=>h) ?_
           intros
           go_wp2_with fail
           go_roundw
           case rel=>exact⟨j+1,by omega,by go_num,aX.out.drew,sG.out⟩
           case measure=>simp[intOf];omega
         have k16b:(op==16)=false:=by simpa using k16
         by_cases k17:op=17
         ·as_aux_lemma=>
           subst k17;have e1:DR 17=0:=rfl;have e2:DT p x 17=(p.cs.length:Int)-1:=rfl;rw[e1,e2] at jT;have hN1:IntKind.i64.wrap ((p.cs.length:Int)-1)=(p.cs.length:Int)-1:=aO _ (by omega) (by omega)
           by_cases ha:a<0
           ·have fE:=bV.out 3 (by rw[jT];exact if_pos (.inl ha)) (by decide);subst fE
            go_wp2_with fail
            refine ic 17 a b 0 ((p.cs.length:Int)-1) _ A1 _ i0 i1 i2 (by omega) (fun _ _ _ _ _ h=>h) ?_
            intros
            go_wp2_with fail
            go_ret
            exact⟨rfl,nO.out.drew⟩
           by_cases hb:(p.cs.length:Int)-1<a
           ·have fE:=bV.out 3 (by rw[jT];exact if_pos (.inr hb)) (by decide);subst fE
            go_wp2_with fail
            refine fO 17 a b 0 ((p.cs.length:Int)-1) _ A1 _ i0 i1 i2 (by omega) (by omega) (fun _ _ _ _ _ h=>h) ?_
            intros
            go_wp2_with fail
            go_ret
            exact⟨rfl,nO.out.drew⟩
           obtain⟨m,rfl⟩:∃m:Nat,a=m:=⟨a.toNat,by omega⟩
           have hmk:m<p.cs.length:=by omega
           have Qw:p.cs[m]?=some p.cs[m]:=List.getElem?_eq_getElem hmk;have hrc:rs[m]?=some (rs[m]'(by rw[HA.out.2.1.1];exact hmk)):=List.getElem?_eq_getElem _
           have hbc:bC p ⟨17,m,b⟩=p.cs[m].np:=by simp[bC,Me,Qw]
           rw[hbc] at jT;generalize p.cs[m]=c at Qw jT hbc;generalize rs[m]'(by rw[HA.out.2.1.1];exact hmk)=rc at hrc
           have hoc:=HA.out.2.1.2 m rc c hrc Qw;obtain⟨gc,oc,e4,Gj,uc,-,-⟩:=fB (s:=⟨some ⟨ga,oa,none⟩,p.cs.length,scc⟩) HA.out.1 hrc;simp only[Option.some.injEq,Addr.mk.injEq,and_true] at e4;obtain⟨rfl,rfl⟩:=e4;rw[hoc.np] at uc;have uc':=(nO.out.cell (p:=⟨ga,oa+m*3,none⟩) Gj id).trans uc;have ca0:=(dL.out.cell (p:=⟨A1,0,none⟩) cAl id).trans MI;clear Qw hrc hbc hoc uc e1 e2
           by_cases hc:b=c.np
           ·have sG:=hide (nH.out (by rw[jT,if_neg (by omega),if_neg (by simpa using hc)]));subst hc
            go_wp2_with fail
            refine zw 17 m c.np 0 ((p.cs.length:Int)-1) _ A1 _ i0 i1 i2 (by omega) (by omega) (some ⟨ga,oa,none⟩) p.cs.length scc m ga oa c.np rfl rfl hmk rfl ca0 uc' false (by simp) ?_ ?_
            ·exact fun _ _ _ _ _ h=>h
            intros
            go_wp2_with fail
            go_roundw
            case rel=>exact⟨j+1,by omega,by go_num,aX.out.drew,sG.out⟩
            case measure=>simp[intOf];omega
           ·have fE:=bV.out 3 (by rw[jT,if_neg (by omega)];exact if_pos hc) (by decide);subst fE
            go_wp2_with fail
            refine zw 17 m b 0 ((p.cs.length:Int)-1) _ A1 _ i0 i1 i2 (by omega) (by omega) (some ⟨ga,oa,none⟩) p.cs.length scc m ga oa c.np rfl rfl hmk rfl ca0 uc' true (by simpa using hc) ?_ ?_
            ·exact fun _ _ _ _ _ h=>h
            intros
            go_wp2_with fail
            go_ret
            exact⟨rfl,nO.out.drew⟩
         have k17b:(op==17)=false:=by simpa using k17
         have aaD:(op !=17)=true:=by simpa using k17
         as_aux_lemma=>
          have e1:DR op=0:=by unfold DR;rw[if_neg k1,if_neg k5]
          have e2:DT p x op=0:=by unfold DT;rw[if_neg k1,if_neg k2,if_neg (by omega),if_neg k5,if_neg (by omega),if_neg k17]
          have e3:bC p ⟨op,a,b⟩=0:=by unfold bC;rw[if_neg k17]
          rw[e1,e2,e3] at jT;clear e1 e2 e3
          by_cases ha:a<0
          ·have fE:=bV.out 3 (by rw[jT];exact if_pos (.inl ha)) (by decide);subst fE
           go_wp2_with fail
           refine ic op a b (0) (0) _ A1 _ i0 i1 i2 (by omega) (fun _ _ _ _ _ h=>h) ?_
           intros
           go_wp2_with fail
           go_ret
           exact⟨rfl,nO.out.drew⟩
          by_cases hb:0<a
          ·have fE:=bV.out 3 (by rw[jT];exact if_pos (.inr hb)) (by decide);subst fE
           go_wp2_with fail
           refine fO op a b (0) (0) _ A1 _ i0 i1 i2 (by omega) (by omega) (fun _ _ _ _ _ h=>h) ?_
           intros
           go_wp2_with fail
           go_ret
           exact⟨rfl,nO.out.drew⟩
          by_cases hc:b≠0
          ·have fE:=bV.out 3 (by rw[jT];rw[if_neg (by omega)];exact if_pos hc) (by decide);subst fE
           go_wp2_with fail
           refine bD op a b (0) (0) _ A1 _ i0 i1 i2 (by omega) (by omega) k17 true (by simpa using hc) (fun _ _ _ _ _ h=>h) ?_
           intros
           go_wp2_with fail
           go_ret
           exact⟨rfl,nO.out.drew⟩
          have hc0:b=0:=Classical.not_not.1 hc;have sG:=hide (nH.out (by rw[jT,if_neg (by omega),if_neg hc]));subst hc0
          go_wp2_with fail
          refine bD op a 0 (0) (0) _ A1 _ i0 i1 i2 (by omega) (by omega) k17 false rfl (fun _ _ _ _ _ h=>h) ?_
          intros
          go_wp2_with fail
          go_roundw
          case rel=>exact⟨j+1,by omega,by go_num,aX.out.drew,sG.out⟩
          case measure=>simp[intOf];omega
        ·have hin:az (CX p x) x.ins=0:=by rw[<-he4];exact gP _ _ (by omega)
         have hhz:iQ p x=(aj x.ins).2:=by unfold iQ;rw[hin,if_neg (by simp)]
         have p9:∀i∈x.ins,i.op=17->0<=i.b:=fun i hi e=>by
          have h1:=dw hin i hi;unfold CX at h1;split at h1
          ·cases h1
          split at h1
          ·cases h1
          split at h1
          ·cases h1
          rename_i r1 r2 r3
          have h4:i.b=bC p i:=Classical.not_not.1 r3;have h5:0<=i.a/\i.a<p.cs.length:=by
           rw[e] at r2;have e1:DR 17=0:=rfl;have e2:DT p x 17=(p.cs.length:Int)-1:=rfl;rw[e1,e2] at r2;omega
          have h6:p.cs[i.a.toNat]?=some (p.cs[i.a.toNat]'(by omega)):=List.getElem?_eq_getElem _;have h7:=(HG4.out _ (List.getElem_mem (l:=p.cs) (n:=i.a.toNat) (by omega))).1;rw[h4];unfold bC Me;rw[if_pos e,h6];exact h7
         have Qx:=hide (vD x.ins x.np x.nv ⟨xaa,x.ins.length,xac⟩ wr (Qv.out.fr qy (fun _ _=>id)) (by omega) p9 (fun i hi=>(HWF.out.2.2 i hi).op));have MF:=hide qy;have aX:Hid (Fr nothing w1 wr):=gX.out.trans gm;obtain⟨er,her⟩:∃er,(aj x.ins).2=er:=⟨_,rfl⟩
         unfold HtP at Qx;rw[her] at hhz Qx;have HH:=hide hhz;clear hR2 gm he4 qy her hin hhz p9
         by_cases h0:er=0
         ·subst h0;have HE:Hid (az (iQ p) (p.cs.drop (k+1))=az (iQ p) p.cs):=by
           have:=HST.out;rw[HH.out,if_neg (by simp)] at this;exact this.symm
          go_wp2_with (go_at_call 37;refine Qx.out.mono ?_;rintro e w6 ⟨sl,rfl,aR,hs6⟩;have bg:=hide (aX.out.trans aR);clear aR hs6)
          go_roundw
          case rel=>exact⟨k+1,by omega,by go_num,bg.out,HE.out⟩
          case measure=>simp[intOf];omega
         ·have h0b:(er !=0)=true:=by simpa using h0
          have HR:Hid (R=er):=by
           unfold Hid;rw[HDF.out,HST.out,HH.out,if_pos h0]
          go_wp2_with (go_at_call 37;refine Qx.out.mono ?_;rintro e w6 ⟨sl,rfl,aR,hs6⟩;have bg:=hide (MF.out.trans aR);clear aR hs6)
          go_ret
          exact⟨by rw[HR.out];rfl,bg.out⟩
      ·have hRr:R=0:=by rw[HDF.out,<-Ah];exact gP _ _ (by omega)
       have ni:=hide (iy.out.trans BS);subst hRr;clear hRk BS Ah
       go_wp2_with fail
       go_ret
       exact⟨rfl,ni.out⟩
end
section
theorem jy (v:Val) (c:Int) (w:World) (hs:v.t.length<=9223372036854775807):
 Calls Tryz.prog 15 #[vv v,.int .i64 c] w fun e w'=>e=.returned (.int .i64 (ah c v))/\Fr nothing w w':=by
 have HF:Hid (Fr nothing w (w.alloc (.cells #[.int .i64 v.k,.int .i64 v.n,.string (bs v.t)] 53))):=(Fr.refl _ _).alloc _;have hsz:=dz v.t;have htl:=gY v.t;have HD:Hid (ah c v=if v.k=0 then(if v.n< -1073741824\/1073741824<v.n then 3 else if v.t.isEmpty then 0 else 2) else if v.k=1 then(if 60<v.t.length then 4 else if v.n≠0 then 2 else 0) else if v.k=2 then(if v.n<0\/c<=v.n then 6 else if v.t.isEmpty then 0 else 2) else 1):=rfl;generalize ah c v=R at*;obtain⟨k,n,t⟩:=v;simp only at*;have hd:=HD.out
 by_cases k0:k=0
 ·rw[if_pos k0] at hd;subst k0
  by_cases hr1:n< -1073741824
  ·rw[if_pos (.inl hr1)] at hd;subst hd
   go_enter Tryz.func15,Tryz.ntmps15
   go_wp2
   go_ret
   exact⟨rfl,HF.out⟩
  by_cases hr2:1073741824<n
  ·rw[if_pos (.inr hr2)] at hd;subst hd
   go_enter Tryz.func15,Tryz.ntmps15
   go_wp2
   go_ret
   exact⟨rfl,HF.out⟩
  rw[if_neg (by omega)] at hd;cases t with
  |nil=>
   simp only[List.isEmpty_nil,if_true] at hd;subst hd
   go_enter Tryz.func15,Tryz.ntmps15
   go_wp2
   go_ret
   exact⟨rfl,HF.out⟩
  |cons x t=>
   simp only[List.isEmpty_cons] at hd;replace hd:R=2:=hd;subst hd
   go_enter Tryz.func15,Tryz.ntmps15
   go_wp2
   go_ret
   exact⟨rfl,HF.out⟩
 rw[if_neg k0] at hd;have k0b:(k==0)=false:=by simpa using k0
 by_cases k1:k=1
 ·rw[if_pos k1] at hd;subst k1
  by_cases hr1:60<t.length
  ·rw[if_pos hr1] at hd;subst hd
   go_enter Tryz.func15,Tryz.ntmps15
   go_wp2
   go_ret
   exact⟨rfl,HF.out⟩
  rw[if_neg hr1] at hd
  by_cases hn:n=0
  ·rw[if_neg (by omega)] at hd;subst hd hn
   go_enter Tryz.func15,Tryz.ntmps15
   go_wp2
   go_ret
   exact⟨rfl,HF.out⟩
  ·rw[if_pos hn] at hd;have hnb:(n !=0)=true:=by simpa using hn
   subst hd
   go_enter Tryz.func15,Tryz.ntmps15
   go_wp2
   go_ret
   exact⟨rfl,HF.out⟩
 rw[if_neg k1] at hd;have k1b:(k==1)=false:=by simpa using k1
 by_cases k2:k=2
 ·rw[if_pos k2] at hd;subst k2
  by_cases hr1:n<0
  ·rw[if_pos (.inl hr1)] at hd;subst hd
   go_enter Tryz.func15,Tryz.ntmps15
   go_wp2
   go_ret
   exact⟨rfl,HF.out⟩
  by_cases hr2:c<=n
  ·rw[if_pos (.inr hr2)] at hd;subst hd
   go_enter Tryz.func15,Tryz.ntmps15
   go_wp2
   go_ret
   exact⟨rfl,HF.out⟩
  rw[if_neg (by omega)] at hd;cases t with
  |nil=>
   simp only[List.isEmpty_nil,if_true] at hd;subst hd
   go_enter Tryz.func15,Tryz.ntmps15
   go_wp2
   go_ret
   exact⟨rfl,HF.out⟩
  |cons x t=>
   simp only[List.isEmpty_cons] at hd;replace hd:R=2:=hd;subst hd
   go_enter Tryz.func15,Tryz.ntmps15
   go_wp2
   go_ret
   exact⟨rfl,HF.out⟩
 rw[if_neg k2] at hd;have k2b:(k==2)=false:=by simpa using k2
 subst hd
 go_enter Tryz.func15,Tryz.ntmps15
 go_wp2
 go_ret
 exact⟨rfl,HF.out⟩
end
end Go.Proofs.YtbcadjgpcfmkfaaGreatDoor
