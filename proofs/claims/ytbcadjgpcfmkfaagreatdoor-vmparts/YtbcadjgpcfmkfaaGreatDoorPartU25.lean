/- RAgent. -/
import Derived.Test.YtbcadjgpcfmkfaaGreatDoorPartU24
import Derived.Test.YtbcadjgpcfmkfaaGreatDoorPartU12
import Derived.Test.YtbcadjgpcfmkfaaGreatDoorPartU9
import Derived.Test.YtbcadjgpcfmkfaaGreatDoorPartU1
set_option maxHeartbeats 0
set_option maxRecDepth 100000
set_option linter.unusedSimpArgs false
namespace Go.Proofs.YtbcadjgpcfmkfaaGreatDoor
open Go Go.RowKit
section
theorem JH (a:Ag) (sc sw sf sh:ai) (away:Bool) (w:World) (hA:iK w sc sw sf sh a) (hW:YV a):
 Calls Tryz.prog 16 #[.agg (gH a sc sw sf sh),.bool away] w fun e w'=>e=.returned (.int .i64 (dx a away))/\Fr nothing w w':=by
 obtain⟨rs,hrs,kM⟩:=hA.fr;obtain⟨n1,m1⟩:=ay hrs;obtain⟨n2,m2⟩:=ay hA.hp;rw[kM.1] at n1 m1;have ncs:sc.n=a.pg.cs.length:=by
  obtain⟨rc,hrc,hec⟩:=hA.pg.cs;rw[(ay hrc).1,hec.1]
 obtain⟨Es,scn,scc⟩:=sc;obtain⟨cu,sfn,T9⟩:=sf;obtain⟨sha,shn,shc⟩:=sh;simp only at n1 n2 ncs;subst n1 n2 ncs;have hl:=hW.l;have qL:Fr nothing w (w.alloc (.cells (gH a ⟨Es,a.pg.cs.length,scc⟩ sw ⟨cu,a.fr.length,T9⟩ ⟨sha,a.hp.length,shc⟩) 31)):=(Fr.refl _ _).alloc _;have ma:=af (Fr.refl nothing (w.alloc (.cells (gH a ⟨Es,a.pg.cs.length,scc⟩ sw ⟨cu,a.fr.length,T9⟩ ⟨sha,a.hp.length,shc⟩) 31))) id;obtain⟨w1,hw1⟩:∃x,x=w.alloc (.cells (gH a ⟨Es,a.pg.cs.length,scc⟩ sw ⟨cu,a.fr.length,T9⟩ ⟨sha,a.hp.length,shc⟩) 31):=⟨_,rfl⟩
 rw[<-hw1] at qL ma;obtain⟨ab,hab⟩:∃x,x=w.heap.size:=⟨_,rfl⟩
 have jY:Hid (∀w',Fr nothing w1 w'->(w'.cell? ⟨ab,0,none⟩=some (.int .i64 a.id)/\w'.cell? ⟨ab,1,none⟩=some (.int .i64 a.bu)/\w'.cell? ⟨ab,2,none⟩=some (.slice Es a.pg.cs.length scc)/\w'.cell? ⟨ab,3,none⟩=some (.slice sw.a sw.n sw.c)/\w'.cell? ⟨ab,4,none⟩=some (.slice cu a.fr.length T9))/\(w'.cell? ⟨ab,5,none⟩=some (.slice sha a.hp.length shc)/\w'.cell? ⟨ab,6,none⟩=some (.int .i64 a.fuel)/\w'.cell? ⟨ab,7,none⟩=some (.int .i64 a.cells)/\w'.cell? ⟨ab,8,none⟩=some (.int .i64 a.hops))/\ab<w'.heap.size):=by
  rw[hab];intro w' hf;have hc:∀j,w'.cell? ⟨w.heap.size,j,none⟩=w1.cell? ⟨w.heap.size,j,none⟩:=fun j=>hf.cell (p:=⟨w.heap.size,j,none⟩) ma.2.2 id
  exact⟨⟨(hc 0).trans (ma.1 0),(hc 1).trans (ma.1 1),(hc 2).trans (ma.1 2),(hc 3).trans (ma.1 3),(hc 4).trans (ma.1 4)⟩,⟨(hc 5).trans (ma.1 5),(hc 6).trans (ma.1 6),(hc 7).trans (ma.1 7),(hc 8).trans (ma.1 8)⟩,Nat.lt_of_lt_of_le ma.2.2 hf.size⟩
 have HA1:=hide (hA.fr' qL);have NB:=hide (hrs.fr qL (fun _ _=>id));have Zb:Hid (Each (CY w1) rs a.fr):=⟨kM.1,fun i r x e1 e2=>(kM.2 i r x e1 e2).fr qL⟩;have iy:=hide qL;have HW:=hide hW;have HPR:=hide (rprogram_any a.pg ⟨Es,a.pg.cs.length,scc⟩ sw w1 HA1.out.pg hW.pg);have hd:dx a away=if aU a.pg≠0 then aU a.pg else if fq a≠0 then fq a else if dO (dV a away) a.fr.length 0≠0 then dO (dV a away) a.fr.length 0 else az (cellC a.hp.length) a.hp:=rfl;obtain⟨R,hR⟩:∃R,dx a away=R:=⟨_,rfl⟩
 rw[hR] at hd⊢;have hfin:=@Tx a.pg;obtain⟨pe,hpe⟩:∃x,aU a.pg=x:=⟨_,rfl⟩
 rw[hpe] at hd HPR hfin;have a0:=ma.1 0;have a1:=ma.1 1;have a2:=ma.1 2;have a3:=ma.1 3;have a6:=ma.1 6;have a7:=ma.1 7;have a8:=ma.1 8;have al:=ma.2.2;have pQ:=hw1.symm;have HAB:=hide hab;clear hrs kM hA qL ma hW hR hw1
 by_cases h0:pe=0
 case neg=>
  rw[if_pos h0] at hd;subst hd;have h0b:(R !=0)=true:=by simpa using h0
  go_enter Tryz.func16,Tryz.ntmps16
  go_wp2_with (go_at_call 36;refine HPR.out.mono ?_;rintro e w2 ⟨rfl,hf2⟩;have bq:=hide (iy.out.trans hf2);clear hf2)
  go_ret
  exact⟨rfl,bq.out⟩
 rw[if_neg (by simpa using h0)] at hd;have nO:=hide (hfin h0);subst h0;have Sr:=hide hd;have HPE:=hide hpe;clear hd hfin hpe
 go_enter Tryz.func16,Tryz.ntmps16
 go_wp2_with (go_at_call 36;refine HPR.out.mono ?_;rintro e w2 ⟨rfl,hf2⟩;obtain⟨⟨x0,x1,x2,x3,x4⟩,⟨x5,x6,x7,x8⟩,xl⟩:=jY.out w2 hf2;rw[hab] at x0 x1 x2 x3 x4 x5 x6 x7 x8 xl;have bq:=hide hf2;have zx:=hide ((Own.lit (enc:=WR) (T:=90) (base:=0) w2 #[.int .i64 a.id,.int .i64 1073741824,.int .i64 a.bu,.int .i64 1073741824,.int .i64 a.fuel,.int .i64 2000,.int .i64 a.cells,.int .i64 60,.int .i64 a.hops,.int .i64 12] (fU a) rfl Em (Nat.zero_le _) (by unfold maxLen;simp[fU])).sl Em);clear hf2)
 rw[<-hab];obtain⟨rb,hrb⟩:∃x,x=w2.heap.size:=⟨_,rfl⟩
 rw[<-hrb] at zx;rw[<-hrb];obtain⟨w3,hw3⟩:∃x,x=w2.alloc (.cells #[.int .i64 a.id,.int .i64 1073741824,.int .i64 a.bu,.int .i64 1073741824,.int .i64 a.fuel,.int .i64 2000,.int .i64 a.cells,.int .i64 60,.int .i64 a.hops,.int .i64 12] 90):=⟨_,rfl⟩
 rw[<-hw3] at zx;rw[<-hw3];have dX:Hid (Fr nothing w1 w3):=by rw[hw3];exact bq.out.alloc _
 clear a0 a1 a2 a3 a6 a7 a8 al pQ x0 x1 x2 x3 x4 x5 x6 x7 x8 xl hab HPR hw3 hrb bq;have HRF:=hide (OD HW.out)
 go_loopw [50,7] (fun i _ wv=>∃(j:Nat),j<=5/\i=.int .i64 j/\Hid (Fr nothing w3 wv/\∀p∈(fU a).take j,¬oD p)) (fun i _ _=>5-(intOf i).toNat)
 case atStart=>exact⟨0,Nat.zero_le _,rfl,Fr.refl _ _,fun p hp=>by simp at hp⟩
 case round=>
  obtain⟨j,hj,rfl,hRj⟩:=hrel;obtain⟨hfj,hgj⟩:=hRj.out
  by_cases hjl:j<5
  ·have hx:(fU a)[j]?=some ((fU a)[j]'hjl):=List.getElem?_eq_getElem _;have hxm:(fU a)[j]'hjl∈fU a:=List.getElem_mem _;have htk:(fU a).take (j+1)=(fU a).take j++ [(fU a)[j]'hjl]:=List.take_succ_eq_append_getElem hjl;generalize(fU a)[j]'hjl=p at hx hxm htk;obtain⟨g,o,e1,dg,u0,u1⟩:=Oy (s:=⟨some ⟨rb,0,none⟩,5,5⟩) zx.out hx;simp only[Option.some.injEq,Addr.mk.injEq,and_true] at e1;obtain⟨rfl,rfl⟩:=e1;have dg':=Nat.lt_of_lt_of_le dg hfj.size;rw[<-hfj.cell (p:=⟨rb,_,none⟩) dg id] at u0 u1;simp only[Nat.zero_add] at u0 u1;have hpf:=HRF.out p hxm;have TZ:Hid (oD p->R=3):=fun hb=>by
    have hc:=Hr hxm hb;have hd:=Sr.out;rw[hc,if_pos (by decide)] at hd;exact hd
   obtain⟨x,m⟩:=p;simp only at u0 u1 hpf;obtain⟨⟨f1,f2⟩,f3,f4⟩:=hpf;have ni:Hid (Fr nothing w3 (wr.alloc (.cells #[.int .i64 x,.int .i64 m] 90))):=hfj.alloc _;have HGJ:=hide hgj;have HTK:=hide htk;clear hRj hfj hgj hx hxm htk
   by_cases b1:x<0
   ·have fE:=TZ.out (.inl b1);subst fE
    go_wp2_with fail
    go_ret
    exact⟨rfl,iy.out.trans (dX.out.trans ni.out)⟩
   by_cases b2:m<x
   ·have fE:=TZ.out (.inr b2);subst fE
    go_wp2_with fail
    go_ret
    exact⟨rfl,iy.out.trans (dX.out.trans ni.out)⟩
   have HN:Hid (∀p∈(fU a).take (j+1),¬oD p):=fun p hp=>by
    rw[HTK.out] at hp;rcases List.mem_append.1 hp with hp|hp
    ·exact HGJ.out p hp
    ·rw[List.mem_singleton.1 hp];rintro(h|h)
     ·exact b1 h
     ·exact b2 h
   go_wp2_with fail
   go_roundw
   case rel=>exact⟨j+1,by omega,by go_num,ni.out,HN.out⟩
   case measure=>simp[intOf];omega
  ·have hcr:=EA (a:=a) (fun p hp=>hgj p (by rw[List.take_of_length_le (show(fU a).length<=j by show 5<=j;omega)];exact hp));have hok:=hgj (a.cells,60) (by rw[List.take_of_length_le (show(fU a).length<=j by show 5<=j;omega)];simp[fU])
   have hcells:0<=a.cells/\a.cells<=60:=by unfold oD at hok;simp only at hok;omega
   have hd:=Sr.out;rw[hcr] at hd;obtain⟨⟨-,-,i2,i3,i4⟩,⟨i5,-,i7,-⟩,il⟩:=jY.out _ (dX.out.trans hfj);have gX:Hid (Fr nothing w1 wr):=dX.out.trans hfj;obtain⟨w4,hw4⟩:∃x,x=wr:=⟨_,rfl⟩
   subst hw4;clear hRj hfj hgj hcr hok Sr HRF zx dX
   by_cases c1:a.fr.length=0
   ·have hrc:qB a=5:=by unfold qB;rw[if_pos (.inl c1)]
    rw[hrc,if_pos (by decide)] at hd;subst hd;rw[c1] at i4
    go_wp2_with fail
    go_ret
    exact⟨rfl,iy.out.trans gX.out⟩
   have c1b:((a.fr.length:Int)==0)=false:=beq_eq_false_iff_ne.2 (by omega)
   by_cases c2:12<a.fr.length
   ·have hrc:qB a=5:=by unfold qB;rw[if_pos (.inr c2)]
    rw[hrc,if_pos (by decide)] at hd;subst hd
    go_wp2_with fail
    go_ret
    exact⟨rfl,iy.out.trans gX.out⟩
   by_cases c3:60<a.hp.length+a.cells
   ·have hrc:qB a=4:=by unfold qB;rw[if_neg (by omega),if_pos c3]
    rw[hrc,if_pos (by decide)] at hd;subst hd
    go_wp2_with fail
    go_ret
    exact⟨rfl,iy.out.trans gX.out⟩
   have hrc:qB a=0:=by unfold qB;rw[if_neg (by omega),if_neg c3]
   rw[hrc,if_neg (by simp)] at hd;have Sr:=hide hd;clear hrc;clear hd
   go_wp2_with fail
   clear i2 i3 i4 i5 i7 il
   go_loopw [86,8,9,10,11,12,13,14,15,16,18,19] (fun i _ _ _ _ _ _ _ _ _ _ _ wv=>∃(k:Nat),k<=a.fr.length/\i=.int .i64 k/\Hid (Fr nothing w4 wv/\dO (dV a away) (a.fr.length-k) k=dO (dV a away) a.fr.length 0)) (fun i _ _ _ _ _ _ _ _ _ _ _ _=>a.fr.length-(intOf i).toNat)
   case atStart=>exact⟨0,Nat.zero_le _,rfl,Fr.refl _ _,rfl⟩
   case round=>
    obtain⟨k,hk,rfl,hRk⟩:=hrel;obtain⟨BS,Ah⟩:=hRk.out
    by_cases hkl:k<a.fr.length
    ·have hx:a.fr[k]?=some a.fr[k]:=List.getElem?_eq_getElem hkl;have hxm:a.fr[k]∈a.fr:=List.getElem_mem hkl;have hgd:a.fr.getD k Ar=a.fr[k]:=by simp[List.getD,hx]
     have hst:=Eo (f:=dV a away) hkl;have hfE:=Ht a away k hgd;rw[Ah] at hst;have hra:rs[k]?=some (rs[k]'(by rw[Zb.out.1];exact hkl)):=List.getElem?_eq_getElem _
     generalize a.fr[k]=f at hx hxm hgd hfE;generalize rs[k]'(by rw[Zb.out.1];exact hkl)=r at hra
     have hwm:=HW.out.fr f hxm;have hok:=Zb.out.2 k r f hra hx;obtain⟨g,o,e1,dg,u0,u1,u2,u3⟩:=jJ (s:=⟨cu,a.fr.length,T9⟩) NB.out hra;simp only at e1;subst e1;obtain⟨k0,k1,k2,k3⟩:=hok;obtain⟨nv,mv⟩:=ay k2;obtain⟨ns,ms⟩:=ay k3;obtain⟨Hy,rat,⟨va,vn,vc⟩,⟨sa,sn,aY⟩⟩:=r;simp only at k0 k1 nv ns u0 u1 u2 u3;subst k0 k1 nv ns;have jW:=gX.out.trans BS;have EP:Hid (Fr nothing w1 wr):=jW;have dg':=Nat.lt_of_lt_of_le dg jW.size;rw[<-jW.cell (p:=⟨g,_,none⟩) dg id] at u0 u1 u2 u3;obtain⟨⟨-,-,i2,i3,i4⟩,-,il⟩:=jY.out _ jW;have hB:∀e:Int,dV a away k=e->e≠0->R=e:=fun e he hne=>by
      rw[he,if_pos hne] at hst;have:=Sr.out;rw[hst,if_pos hne] at this;exact this
     have HB:Hid (∀e:Int,frameC a.pg f (jh a k away)=e->e≠0->R=e):=fun e he hne=>hB e (by rw[hfE,he,if_pos hne]) hne
     have HV:Hid (∀e:Int,frameC a.pg f (jh a k away)=0->az (ah a.hp.length) (f.vars++f.stack)=e->e≠0->R=e):=fun e h0 he hne=>hB e (by rw[hfE,h0,if_neg (by simp),he]) hne
     have HN:Hid (frameC a.pg f (jh a k away)=0->az (ah a.hp.length) (f.vars++f.stack)=0->dO (dV a away) (a.fr.length-(k+1)) (k+1)=dO (dV a away) a.fr.length 0):=fun h0 he=>by
      have he':dV a away k=0:=by rw[hfE,h0,if_neg (by simp),he]
      rw[he',if_neg (by simp)] at hst;exact hst.symm
     have Zc:=hide hwm;have HK2:=hide k2;have HK3:=hide k3;have jf:Fr nothing wr (wr.alloc (.cells #[.int .i64 f.fn,.int .i64 f.at_,.slice va f.vars.length vc,.slice sa f.stack.length aY] 51)):=(Fr.refl _ _).alloc _;have mb:=af (Fr.refl nothing (wr.alloc (.cells #[.int .i64 f.fn,.int .i64 f.at_,.slice va f.vars.length vc,.slice sa f.stack.length aY] 51))) id;have aX:Hid (Fr nothing w1 (wr.alloc (.cells #[.int .i64 f.fn,.int .i64 f.at_,.slice va f.vars.length vc,.slice sa f.stack.length aY] 51))):=jW.trans jf;have Ua:Hid (Fr nothing w4 (wr.alloc (.cells #[.int .i64 f.fn,.int .i64 f.at_,.slice va f.vars.length vc,.slice sa f.stack.length aY] 51))):=BS.trans jf;have oK:=hide mb;have hfx:=hwm.fn;have hax:=hwm.at_;clear hRk BS Ah hxm hst hfE hra hwm jW jf mb k2 k3 hB
     by_cases b1:f.fn<0
     ·as_aux_lemma=>
       have hR:=HB.out 3 (by rw[lW _ _ _ rfl,if_pos (.inl b1)]) (by decide);subst hR
       go_wp2_with fail
       go_ret
       exact⟨rfl,iy.out.trans aX.out⟩
     by_cases b2:a.pg.cs.length<=f.fn
     ·as_aux_lemma=>
       have hR:=HB.out 3 (by rw[lW _ _ _ rfl,if_pos (.inr b2)]) (by decide);subst hR
       go_wp2_with fail
       go_ret
       exact⟨rfl,iy.out.trans aX.out⟩
     have hb2:¬((f.fn:Int)≥(a.pg.cs.length:Int)):=b2;obtain⟨m,hm⟩:∃m:Nat,f.fn=m:=⟨f.fn.toNat,by omega⟩
     have hml:m<a.pg.cs.length:=by omega
     obtain⟨rc,hrc,hec⟩:=HA1.out.pg.cs;have Qw:a.pg.cs[m]?=some a.pg.cs[m]:=List.getElem?_eq_getElem hml;have XN:rc[m]?=some (rc[m]'(by rw[hec.1];exact hml)):=List.getElem?_eq_getElem _
     have hcm:a.pg.cs[m]∈a.pg.cs:=List.getElem_mem hml;generalize a.pg.cs[m]=c at Qw hcm;generalize rc[m]'(by rw[hec.1];exact hml)=q at XN
     obtain⟨q1,q2,q3⟩:=hec.2 m q c XN Qw;obtain⟨q4,q5⟩:=ay q3;obtain⟨gc,oc,e2,Gj,VA,v1,v2⟩:=fB (s:=⟨Es,a.pg.cs.length,scc⟩) hrc XN;obtain⟨qnp,qnv,⟨qa,qn,qc⟩⟩:=q;simp only at q1 q2 q4 VA v1 v2;subst q1 q2 q4;simp only at e2;subst e2;have hcd:a.pg.cs.getD f.fn.toNat xI=c:=by rw[hm];simp[List.getD_eq_getElem?_getD,Qw]
     have ML:=lW a.pg f (jh a k away) hcd;rw[if_neg (by omega)] at ML;have JI:=hide ML;have dgc':=Nat.lt_of_lt_of_le Gj EP.out.size;rw[<-EP.out.cell (p:=⟨gc,_,none⟩) Gj id] at VA v1 v2;have HQ3:=hide q3;rw[hm] at u0 oK aX Ua;have hcv:0<=c.nv/\c.nv<=8/\c.ins.length<=200/\c.ins.length≠0:=by
      have h1:=HPE.out;unfold aU at h1;split at h1
      ·rename_i hx;exact absurd h1 hx
      ·rename_i hx
       have:=(iR (Classical.not_not.1 hx)).2.2.2.2.2 c hcm;omega
     by_cases b3:f.at_<0
     ·as_aux_lemma=>
       have hR:=HB.out 3 (by rw[JI.out,if_pos (.inl b3)]) (by decide);subst hR
       go_wp2_with fail
       go_ret
       exact⟨rfl,iy.out.trans (aX.out.alloc _)⟩
     by_cases b4:c.ins.length<=f.at_
     ·as_aux_lemma=>
       have hR:=HB.out 3 (by rw[JI.out,if_pos (.inr (.inl b4))]) (by decide);subst hR
       go_wp2_with fail
       go_ret
       exact⟨rfl,iy.out.trans (aX.out.alloc _)⟩
     have b4':¬((f.at_:Int)≥(c.ins.length:Int)):=b4
     by_cases b5:(f.vars.length:Int)=c.nv
     case neg=>
      have hR:=HB.out 3 (by rw[JI.out,if_pos (.inr (.inr b5))]) (by decide);subst hR;have b5b:((f.vars.length:Int) !=c.nv)=true:=by simpa using b5
      go_wp2_with fail
      go_ret
      exact⟨rfl,iy.out.trans (aX.out.alloc _)⟩
     have b5b:((f.vars.length:Int) !=c.nv)=false:=by simpa using b5
     rw[if_neg (fun e=>e.elim b3 (fun e=>e.elim b4 (fun e=>e b5)))] at ML;generalize hqq:jh a k away=q at ML HB HV HN;obtain⟨-,hc0,p9,aaG⟩:=Mj HPE.out hcm;have hw2:=HW.out.pg.c c hcm;obtain⟨p,hp⟩:∃p:Nat,f.at_=p:=⟨f.at_.toNat,by omega⟩
     have hpl:p<c.ins.length:=by omega
     have hlen:=En hc0;have hget:(aj c.ins).1[p]?=some (bN c p):=by
      have h1:p<(aj c.ins).1.length:=by rw[hlen];exact hpl
      simp[bN,List.getD_eq_getElem?_getD,List.getElem?_eq_getElem h1]
     have ack:=jF c.ins _ (List.mem_of_getElem? hget);rw[hp] at ML u1 oK aX Ua;simp only[Int.toNat_natCast] at ML;obtain⟨n0,hn0⟩:∃x,bN c p=x:=⟨_,rfl⟩
     simp only[hn0] at ML;rw[hn0] at hget ack;have JI:=hide ML;obtain⟨w5,xU⟩:∃x,x=wr.alloc (.cells #[.int .i64 (m:Int),.int .i64 (p:Int),.slice va f.vars.length vc,.slice sa f.stack.length aY] 51):=⟨_,rfl⟩
     rw[<-xU] at oK aX Ua;obtain⟨w6,nK⟩:∃x,x=w5.alloc (.cells #[.int .i64 c.np,.int .i64 c.nv,.slice qa c.ins.length qc] 79):=⟨_,rfl⟩
     have Qy:Fr nothing w5 w6:=by rw[nK];exact(Fr.refl _ _).alloc _
     have zc:w5.heap.size=wr.heap.size+1:=by rw[xU];simp
     have Qx:=hide (vD c.ins c.np c.nv ⟨qa,c.ins.length,qc⟩ w6 (HQ3.out.fr (aX.out.trans Qy) (fun _ _=>id)) (by omega) p9 (fun i hi=>(hw2.2.2 i hi).op));unfold HtP at Qx;have mc:=af (w:=w5) (cs:=#[.int .i64 c.np,.int .i64 c.nv,.slice qa c.ins.length qc]) (t:=79) (w1:=w6) (S:=nothing) (by rw[<-nK];exact Fr.refl _ _) id
     rw[zc] at mc;obtain⟨fb,Pv⟩:∃x,x=wr.heap.size:=⟨_,rfl⟩
     have dJ:Hid (∀w',Fr nothing w6 w'->
      (w'.cell? ⟨wr.heap.size,0,none⟩=some (.int .i64 (m:Int))/\w'.cell? ⟨wr.heap.size,1,none⟩=some (.int .i64 (p:Int))/\w'.cell? ⟨wr.heap.size,2,none⟩=some (.slice va f.vars.length vc)/\w'.cell? ⟨wr.heap.size,3,none⟩=some (.slice sa f.stack.length aY))/\w'.cell? ⟨wr.heap.size+1,2,none⟩=some (.slice qa c.ins.length qc)/\wr.heap.size+1<w'.heap.size/\Fr nothing w1 w'/\Fr nothing w4 w'):=fun w' hf=>by
      have hb:∀j,w'.cell? ⟨wr.heap.size,j,none⟩=_:=fun j=>((Qy.trans hf).cell (p:=⟨wr.heap.size,j,none⟩) oK.out.2.2 id).trans (oK.out.1 j)
      exact⟨⟨(hb 0),(hb 1),(hb 2),(hb 3)⟩,(hf.cell (p:=⟨wr.heap.size+1,2,none⟩) mc.2.2 id).trans (mc.1 2),Nat.lt_of_lt_of_le mc.2.2 hf.size,(aX.out.trans Qy).trans hf,(Ua.out.trans Qy).trans hf⟩
     have aaH:=hide (And.intro hc0 aaG);have HHG:Hid (∀j:Nat,j<c.ins.length->(aj c.ins).1[j]?=some (bN c j)):=fun j hj=>by
      have h1:j<(aj c.ins).1.length:=by rw[hlen];exact hj
      simp[bN,List.getD_eq_getElem?_getD,List.getElem?_eq_getElem h1]
     have HLEN:=hide hlen;have Qz:=hide hget;clear ML hw2 p9 aaG hc0 mc zc Qy hn0 hlen hget;subst nK;subst xU
     by_cases hl1:k+1=a.fr.length
     ·cases away with
      |false=>
       as_aux_lemma=>
        have hlast:((k:Int)==(a.fr.length:Int)-1)=true:=by simpa using(by omega:(k:Int)=(a.fr.length:Int)-1)
        have hq:q=(0,0):=by rw[<-hqq,xP a k false (by omega)];rfl
        subst hq;have sK:Hid (frameC a.pg f (0,0)=if(f.stack.length:Int)≠n0 then 10 else 0):=by
         have:=JI.out;simp only[ne_eq,not_true_eq_false,false_and,if_false,Int.sub_zero] at this;exact this
        clear JI
        go_wp2_with (go_at_call 37;refine Qx.out.mono ?_;rintro e w7 ⟨hs,rfl,dZ,iM⟩;obtain⟨⟨y0,y1,y2,y3⟩,y4,yl,-,-⟩:=dJ.out w7 dZ;obtain⟨nh,-⟩:=ay iM;obtain⟨gh,oh,eh,dh,uh⟩:=iZ iM Qz.out;obtain⟨hsa,hsn,hsc⟩:=hs;simp only at nh eh;subst nh eh;rw[HLEN.out] at iM⊢;obtain⟨⟨-,-,-,-,t4⟩,⟨t5,-,-,-⟩,tl⟩:=jY.out w7 (dJ.out w7 dZ).2.2.2.1;have yl0:wr.heap.size<w7.heap.size:=Nat.lt_trans (Nat.lt_succ_self _) yl;have dH:=hide dZ;have Zd:=hide iM;clear dZ iM)
        all_goals first
         |(have hR:R=10:=HB.out 10 (by rw[sK.out,if_pos (by first|exact OE (by omega) (by assumption)|exact OG (by omega) (by assumption))]) (by decide);go_ret;exact⟨by first|rfl|(rw[hR];rfl),iy.out.trans (dJ.out _ dH.out).2.2.2.1⟩)
         |skip
        have n2:n0=(f.stack.length:Int):=OH (by assumption);subst n2;have HZ:Hid (frameC a.pg f (0,0)=0):=by have h:=sK.out;rw[if_neg (by simp)] at h;exact h
        clear sK;obtain⟨⟨-,-,z2,z3⟩,-,zl,ES,XO⟩:=dJ.out _ (dH.out);obtain⟨q1,mW,q2,rG,r1,r2,g9,g10,g11,ho⟩:=xQ w7 ⟨va,f.vars.length,vc⟩ ⟨sa,f.stack.length,aY⟩ f.vars f.stack (HK2.out.fr ES (fun _ _=>id)) (HK3.out.fr ES (fun _ _=>id)) (by omega) (by omega);have zy:∀w',Fr nothing w7 w'->w'.cell? ⟨wr.heap.size,2,none⟩=some (.slice va f.vars.length vc)/\w'.cell? ⟨wr.heap.size,3,none⟩=some (.slice sa f.stack.length aY):=fun w' hf=>by
         have:=(dJ.out w' ((dH.out).trans hf)).1;exact⟨this.2.2.1,this.2.2.2⟩
        refine wp_region_held_drew (S:=fun w'=>w'.cell? ⟨wr.heap.size,2,none⟩=some (.slice va f.vars.length vc)/\w'.cell? ⟨wr.heap.size,3,none⟩=some (.slice sa f.stack.length aY)) (by kernel_rfl) ?_ (fun hHeld=>?_)
        ·exact⟨z2,z3⟩
        refine tk 1 ?_
        refine tk 2 ?_
        refine tk 4 ?_
        refine tk 5 ?_
        refine tk 8 ?_
        refine iP 0 (fun K hK=>?_)
        go_simp;refine hK _ _ (zy _ g9) (fun _=>?_)
        clear hK K hHeld
        try simp only[Act.put,sA,sZ,sS]
        have hHeld:=zy _ g9;refine iP 3 (fun K hK=>?_)
        refine fT rfl _ _ 49 rfl _ _ (by simp[Act.eval]) (by simp[Act.eval]) r1 ?_
        refine hK _ _ (zy _ g10) (fun _=>?_)
        clear hK K hHeld
        try simp only[Act.put,sA,sZ,sS]
        have hHeld:=zy _ g10;refine iP 6 (fun K hK=>?_)
        refine fT rfl _ _ 49 rfl _ _ (by simp[Act.eval]) (by simp[Act.eval]) r2 ?_
        refine hK _ _ (zy _ g11) (fun _=>?_)
        clear hK K hHeld
        try simp only[Act.put,sA,sZ,sS]
        have hHeld:=zy _ g11;refine tk 7 ?_
        refine wpAnyH_done (by kernel_rfl) ?_ _
        have AU:=hide ((dH.out).trans g11);have HO:=hide (ho.sl aK);obtain⟨V7,-⟩:=ay HO.out;obtain⟨q2a,aaI,q2c⟩:=q2;simp only at V7;subst V7;clear hHeld zy r1 r2 g9 g10 g11 ho z2 z3 zl ES XO;have V8:Hid (∀v∈f.vars++f.stack,wX v):=fun v hv=>by
         rcases List.mem_append.1 hv with hv|hv
         ·exact Zc.out.v v hv
         ·exact Zc.out.s v hv
        have hLl:(f.vars++f.stack).length<=100:=by rw[List.length_append];omega
        generalize f.vars++f.stack=L at HO V8 HV HN hLl
        go_wp2_with fail
        go_loopw [213,18,19] (fun i _ _ wv=>∃(v:Nat),v<=L.length/\i=.int .i64 v/\Hid (Fr nothing rG wv/\az (ah a.hp.length) (L.drop v)=az (ah a.hp.length) L)) (fun i _ _ _=>L.length-(intOf i).toNat)
        case atStart=>exact⟨0,Nat.zero_le _,rfl,Fr.refl _ _,rfl⟩
        case round=>
         as_aux_lemma=>
          obtain⟨v,hv,rfl,hRv⟩:=hrel;obtain⟨vo,hev⟩:=hRv.out;have zz:=(dJ.out _ (AU.out.trans vo)).2.2.2.1;have QA:=hide (dJ.out _ (AU.out.trans vo)).2.2.2.2
          by_cases hvl:v<L.length
          ·have hx:L[v]?=some L[v]:=List.getElem?_eq_getElem hvl;have hxm:L[v]∈L:=List.getElem_mem hvl;have hst:=fH (ah a.hp.length) L hx;rw[hev] at hst;generalize L[v]=x at hx hxm hst;have hwx:=V8.out x hxm;obtain⟨gv,ov,ev,dv,a0,a1,a2⟩:=kr (s:=⟨q2a,L.length,q2c⟩) HO.out hx;simp only at ev;subst ev;have dv':=Nat.lt_of_lt_of_le dv vo.size;rw[<-vo.cell (p:=⟨gv,_,none⟩) dv id] at a0 a1 a2;obtain⟨-,⟨i5,-,-,-⟩,il⟩:=jY.out _ zz;have hFn:Fr nothing wr (wr.alloc (.cells #[.int .i64 x.k,.int .i64 x.n,.string (bs x.t)] 53)):=(Fr.refl _ _).alloc _;have EP:=hide (jy x a.hp.length (wr.alloc (.cells #[.int .i64 x.k,.int .i64 x.n,.string (bs x.t)] 53)) hwx.t);have V9:=hide hFn;have HST:=hide hst;have HFV:=hide zz;have QB:=hide vo;clear hRv vo hev zz hx hxm hst hwx hFn
           by_cases h1:ah a.hp.length x=0
           ·have HE:Hid (az (ah a.hp.length) (L.drop (v+1))=az (ah a.hp.length) L):=by
             have:=HST.out;rw[if_neg (by simpa using h1)] at this;exact this.symm
            rw[h1] at EP
            go_wp2_with (go_at_call 15;refine EP.out.mono ?_;rintro e DN ⟨rfl,jU⟩;have zC:=hide (QB.out.trans (V9.out.trans jU));clear jU)
            go_roundw
            case rel=>exact⟨v+1,by omega,by go_num,zC.out,HE.out⟩
            case measure=>simp[intOf];omega
           ·have hR:R=ah a.hp.length x:=HV.out _ HZ.out (by have:=HST.out;rw[if_pos h1] at this;exact this) h1;generalize ah a.hp.length x=er at hR h1 EP;have h1b:(er !=0)=true:=by simpa using h1
            go_wp2_with (go_at_call 15;refine EP.out.mono ?_;rintro e DN ⟨rfl,jU⟩;have zC:=hide (HFV.out.trans (V9.out.trans jU));clear jU)
            go_ret
            exact⟨by first|rfl|(rw[hR];rfl),iy.out.trans zC.out⟩
          ·have HE:Hid (dO (dV a false) (a.fr.length-(k+1)) (k+1)=dO (dV a false) a.fr.length 0):=HN.out HZ.out (by rw[<-hev];exact gP _ _ (by omega));clear hRv vo hev zz
           go_wp2_with fail
           go_roundw
           case rel=>exact⟨k+1,by omega,by go_num,QA.out,HE.out⟩
           case measure=>simp[intOf];omega
      |true=>
       as_aux_lemma=>
        have hlast:((k:Int)==(a.fr.length:Int)-1)=true:=by simpa using(by omega:(k:Int)=(a.fr.length:Int)-1)
        have hq:q=(13,0):=by rw[<-hqq,xP a k true (by omega)];rfl
        subst hq
        by_cases hp0:p=0
        ·as_aux_lemma=>
          obtain rfl:p=0:=by omega
          have hR:R=10:=HB.out 10 (by have h:=JI.out;rw[if_pos ⟨by simp,.inl rfl⟩] at h;exact h) (by decide);have u1z:wr.cell? ⟨g,o+k*4+1,none⟩=some (.int .i64 0):=u1;clear u1
          go_wp2_with (go_at_call 37;refine Qx.out.mono ?_;rintro e w7 ⟨hs,rfl,dZ,iM⟩;obtain⟨⟨y0,y1,y2,y3⟩,y4,yl,-,-⟩:=dJ.out w7 dZ;obtain⟨nh,-⟩:=ay iM;obtain⟨gh,oh,eh,dh,uh⟩:=iZ iM Qz.out;obtain⟨hsa,hsn,hsc⟩:=hs;simp only at nh eh;subst nh eh;rw[HLEN.out] at iM⊢;obtain⟨⟨-,-,-,-,t4⟩,⟨t5,-,-,-⟩,tl⟩:=jY.out w7 (dJ.out w7 dZ).2.2.2.1;have yl0:wr.heap.size<w7.heap.size:=Nat.lt_trans (Nat.lt_succ_self _) yl;simp only[Nat.add_zero] at uh;have dH:=hide dZ;have Zd:=hide iM;clear dZ iM)
          all_goals
           go_ret
           exact⟨by first|rfl|(rw[hR];rfl),iy.out.trans (dJ.out _ dH.out).2.2.2.1⟩
        obtain⟨p',rfl⟩:∃p',p=p'+1:=⟨p-1,by omega⟩
        have hpi:p'<c.ins.length:=by omega
        have hpm:((p'+1:Nat):Int)-1=(p':Int):=by omega
        have hgi:c.ins[p']?=some c.ins[p']:=List.getElem?_eq_getElem hpi;have JJ:c.ins.getD p' uw=c.ins[p']:=by simp[List.getD_eq_getElem?_getD,hgi]
        have him:c.ins[p']∈c.ins:=List.getElem_mem hpi;generalize c.ins[p']=it at hgi JJ him;obtain⟨JK,XQ,ei,di,XT,XU,XV⟩:=iB (s:=⟨qa,c.ins.length,qc⟩) HQ3.out hgi;simp only at ei;subst ei;have h13:=aaH.out.2 it him;obtain⟨JM,ia,ib⟩:=it;simp only at XT XU XV h13;have HI7:Hid (∀w',Fr nothing w1 w'->w'.cell? ⟨JK,XQ+p'*3,none⟩=some (.int .i64 JM)/\w'.cell? ⟨JK,XQ+p'*3+1,none⟩=some (.int .i64 ia)/\w'.cell? ⟨JK,XQ+p'*3+2,none⟩=some (.int .i64 ib)/\JK<w'.heap.size):=fun w' hf=>
         ⟨(hf.cell (p:=⟨JK,_,none⟩) di id).trans XT,(hf.cell (p:=⟨JK,_,none⟩) di id).trans XU,(hf.cell (p:=⟨JK,_,none⟩) di id).trans XV,Nat.lt_of_lt_of_le di hf.size⟩
        have hgh:=HHG.out p' hpi;have hrh:=jF c.ins _ (List.mem_of_getElem? hgh);obtain⟨n1,hn1⟩:∃x,bN c p'=x:=⟨_,rfl⟩
        rw[hn1] at hgh hrh;have Dr:=JI.out;simp only[Nat.add_sub_cancel,JJ,hn1] at Dr;have HGH:=hide hgh;clear JI XT XU XV di hgi JJ hn1 hgh him;have sK:Hid (frameC a.pg f (13,0)=if n1=-1\/JM≠13\/ia≠0 then 10 else if(f.stack.length:Int)≠n0-1 then 10 else 0):=by
         have h:¬(((p'+1:Nat):Int)=0):=by omega
         simp only[ne_eq,h,false_or,true_and,not_false_eq_true,if_true,(by decide:¬(13:Int)=0)] at Dr;exact Dr
        clear Dr;have Sw:Hid (∀w7,Fr nothing w7 (w7.alloc (.cells #[.int .i64 JM,.int .i64 ia,.int .i64 ib] 82))):=fun w7=>(Fr.refl _ _).alloc _
        go_wp2_with (go_at_call 37;refine Qx.out.mono ?_;rintro e w7 ⟨hs,rfl,dZ,iM⟩;obtain⟨⟨y0,y1,y2,y3⟩,y4,yl,-,-⟩:=dJ.out w7 dZ;obtain⟨nh,-⟩:=ay iM;obtain⟨gh,oh,eh,dh,uh⟩:=iZ iM Qz.out;obtain⟨gh2,oh2,XW,dh2,uh2⟩:=iZ iM HGH.out;obtain⟨hsa,hsn,hsc⟩:=hs;simp only at nh eh XW;subst nh eh;simp only[Option.some.injEq,Addr.mk.injEq,and_true] at XW;obtain⟨rfl,rfl⟩:=XW;obtain⟨vi0,vi1,vi2,vil⟩:=HI7.out w7 (dJ.out w7 dZ).2.2.2.1;rw[HLEN.out] at iM⊢;obtain⟨⟨-,-,-,-,t4⟩,⟨t5,-,-,-⟩,tl⟩:=jY.out w7 (dJ.out w7 dZ).2.2.2.1;have yl0:wr.heap.size<w7.heap.size:=Nat.lt_trans (Nat.lt_succ_self _) yl;have dH:=hide dZ;have Zd:=hide iM;clear dZ iM)
        all_goals first
         |(have hR:R=10:=HB.out 10 (by rw[sK.out];first|exact if_pos (.inl (by omega))|exact if_pos (.inr (.inl (by simpa using‹(!JM==13)=true›)))|(split<;>first|rfl|exact if_pos (by first|exact OE (by omega) (by omega)|exact OG (by omega) (by assumption)))) (by decide);go_ret;exact⟨by first|rfl|(rw[hR];rfl),iy.out.trans (dJ.out _ (dH.out.trans (Sw.out _))).2.2.2.1⟩)
         |skip
        have n2:n0-1=(f.stack.length:Int):=OH (by assumption);have hop:JM=13:=by simpa using‹(!JM==13)=false›
        have HZ:Hid (frameC a.pg f (13,0)=0):=by
         have h:=sK.out;rw[if_neg (fun e=>e.elim (by omega) (fun e=>e.elim (fun e=>e hop) (fun e=>e (h13 hop)))),if_neg (by omega)] at h;exact h
        clear sK;have hia:=h13 hop;subst hop;subst hia;obtain⟨⟨-,-,z2,z3⟩,-,zl,ES,XO⟩:=dJ.out _ (dH.out.trans ((Fr.refl _ _).alloc _));obtain⟨q1,mW,q2,rG,r1,r2,g9,g10,g11,ho⟩:=xQ (w7.alloc (.cells #[.int .i64 13,.int .i64 0,.int .i64 ib] 82)) ⟨va,f.vars.length,vc⟩ ⟨sa,f.stack.length,aY⟩ f.vars f.stack (HK2.out.fr ES (fun _ _=>id)) (HK3.out.fr ES (fun _ _=>id)) (by omega) (by omega);rw[show(w7.alloc (.cells #[.int .i64 13,.int .i64 0,.int .i64 ib] 82)).heap.size=w7.heap.size+1 by simp] at r1;have zy:∀w',Fr nothing (w7.alloc (.cells #[.int .i64 13,.int .i64 0,.int .i64 ib] 82)) w'->w'.cell? ⟨wr.heap.size,2,none⟩=some (.slice va f.vars.length vc)/\w'.cell? ⟨wr.heap.size,3,none⟩=some (.slice sa f.stack.length aY):=fun w' hf=>by
         have:=(dJ.out w' ((dH.out.trans ((Fr.refl _ _).alloc _)).trans hf)).1;exact⟨this.2.2.1,this.2.2.2⟩
        refine wp_region_held_drew (S:=fun w'=>w'.cell? ⟨wr.heap.size,2,none⟩=some (.slice va f.vars.length vc)/\w'.cell? ⟨wr.heap.size,3,none⟩=some (.slice sa f.stack.length aY)) (by kernel_rfl) ?_ (fun hHeld=>?_)
        ·exact⟨z2,z3⟩
        refine tk 1 ?_
        refine tk 2 ?_
        refine tk 4 ?_
        refine tk 5 ?_
        refine tk 8 ?_
        refine iP 0 (fun K hK=>?_)
        go_simp;refine hK _ _ (zy _ g9) (fun _=>?_)
        clear hK K hHeld
        try simp only[Act.put,sA,sZ,sS]
        have hHeld:=zy _ g9;refine iP 3 (fun K hK=>?_)
        refine fT rfl _ _ 49 rfl _ _ (by simp[Act.eval]) (by simp[Act.eval]) r1 ?_
        refine hK _ _ (zy _ g10) (fun _=>?_)
        clear hK K hHeld
        try simp only[Act.put,sA,sZ,sS]
        have hHeld:=zy _ g10;refine iP 6 (fun K hK=>?_)
        refine fT rfl _ _ 49 rfl _ _ (by simp[Act.eval]) (by simp[Act.eval]) r2 ?_
        refine hK _ _ (zy _ g11) (fun _=>?_)
        clear hK K hHeld
        try simp only[Act.put,sA,sZ,sS]
        have hHeld:=zy _ g11;refine tk 7 ?_
        refine wpAnyH_done (by kernel_rfl) ?_ _
        have AU:=hide ((dH.out.trans ((Fr.refl _ _).alloc _)).trans g11);have HO:=hide (ho.sl aK);obtain⟨V7,-⟩:=ay HO.out;obtain⟨q2a,aaI,q2c⟩:=q2;simp only at V7;subst V7;clear hHeld zy r1 r2 g9 g10 g11 ho z2 z3 zl ES XO;have V8:Hid (∀v∈f.vars++f.stack,wX v):=fun v hv=>by
         rcases List.mem_append.1 hv with hv|hv
         ·exact Zc.out.v v hv
         ·exact Zc.out.s v hv
        have hLl:(f.vars++f.stack).length<=100:=by rw[List.length_append];omega
        generalize f.vars++f.stack=L at HO V8 HV HN hLl
        go_wp2_with fail
        go_loopw [213,18,19] (fun i _ _ wv=>∃(v:Nat),v<=L.length/\i=.int .i64 v/\Hid (Fr nothing rG wv/\az (ah a.hp.length) (L.drop v)=az (ah a.hp.length) L)) (fun i _ _ _=>L.length-(intOf i).toNat)
        case atStart=>exact⟨0,Nat.zero_le _,rfl,Fr.refl _ _,rfl⟩
        case round=>
         as_aux_lemma=>
          obtain⟨v,hv,rfl,hRv⟩:=hrel;obtain⟨vo,hev⟩:=hRv.out;have zz:=(dJ.out _ (AU.out.trans vo)).2.2.2.1;have QA:=hide (dJ.out _ (AU.out.trans vo)).2.2.2.2
          by_cases hvl:v<L.length
          ·have hx:L[v]?=some L[v]:=List.getElem?_eq_getElem hvl;have hxm:L[v]∈L:=List.getElem_mem hvl;have hst:=fH (ah a.hp.length) L hx;rw[hev] at hst;generalize L[v]=x at hx hxm hst;have hwx:=V8.out x hxm;obtain⟨gv,ov,ev,dv,a0,a1,a2⟩:=kr (s:=⟨q2a,L.length,q2c⟩) HO.out hx;simp only at ev;subst ev;have dv':=Nat.lt_of_lt_of_le dv vo.size;rw[<-vo.cell (p:=⟨gv,_,none⟩) dv id] at a0 a1 a2;obtain⟨-,⟨i5,-,-,-⟩,il⟩:=jY.out _ zz;have hFn:Fr nothing wr (wr.alloc (.cells #[.int .i64 x.k,.int .i64 x.n,.string (bs x.t)] 53)):=(Fr.refl _ _).alloc _;have EP:=hide (jy x a.hp.length (wr.alloc (.cells #[.int .i64 x.k,.int .i64 x.n,.string (bs x.t)] 53)) hwx.t);have V9:=hide hFn;have HST:=hide hst;have HFV:=hide zz;have QB:=hide vo;clear hRv vo hev zz hx hxm hst hwx hFn
           by_cases h1:ah a.hp.length x=0
           ·have HE:Hid (az (ah a.hp.length) (L.drop (v+1))=az (ah a.hp.length) L):=by
             have:=HST.out;rw[if_neg (by simpa using h1)] at this;exact this.symm
            rw[h1] at EP
            go_wp2_with (go_at_call 15;refine EP.out.mono ?_;rintro e DN ⟨rfl,jU⟩;have zC:=hide (QB.out.trans (V9.out.trans jU));clear jU)
            go_roundw
            case rel=>exact⟨v+1,by omega,by go_num,zC.out,HE.out⟩
            case measure=>simp[intOf];omega
           ·have hR:R=ah a.hp.length x:=HV.out _ HZ.out (by have:=HST.out;rw[if_pos h1] at this;exact this) h1;generalize ah a.hp.length x=er at hR h1 EP;have h1b:(er !=0)=true:=by simpa using h1
            go_wp2_with (go_at_call 15;refine EP.out.mono ?_;rintro e DN ⟨rfl,jU⟩;have zC:=hide (HFV.out.trans (V9.out.trans jU));clear jU)
            go_ret
            exact⟨by first|rfl|(rw[hR];rfl),iy.out.trans zC.out⟩
          ·have HE:Hid (dO (dV a true) (a.fr.length-(k+1)) (k+1)=dO (dV a true) a.fr.length 0):=HN.out HZ.out (by rw[<-hev];exact gP _ _ (by omega));clear hRv vo hev zz
           go_wp2_with fail
           go_roundw
           case rel=>exact⟨k+1,by omega,by go_num,QA.out,HE.out⟩
           case measure=>simp[intOf];omega
     ·as_aux_lemma=>
       have hlt2:k+1<a.fr.length:=by omega
       have hlast:((k:Int)==(a.fr.length:Int)-1)=false:=by simpa using(by omega:¬(k:Int)=(a.fr.length:Int)-1)
       have hx2:a.fr[k+1]?=some a.fr[k+1]:=List.getElem?_eq_getElem hlt2;have Ub:rs[k+1]?=some (rs[k+1]'(by rw[Zb.out.1];exact hlt2)):=List.getElem?_eq_getElem _
       have XX:=HW.out.fr _ (List.getElem_mem hlt2);generalize a.fr[k+1]=f2 at hx2 XX;generalize rs[k+1]'(by rw[Zb.out.1];exact hlt2)=r2 at Ub
       have hok2:=(Zb.out.2 (k+1) r2 f2 Ub hx2).fn;have hq:q=(17,f2.fn):=by rw[<-hqq,Hu a k away hx2]
       subst hq;obtain⟨g',o',e',d',y0',-,-,-⟩:=jJ (s:=⟨some ⟨g,o,none⟩,a.fr.length,T9⟩) NB.out Ub;simp only[Option.some.injEq,Addr.mk.injEq,and_true] at e';obtain⟨rfl,rfl⟩:=e';rw[hok2] at y0';have HN2:Hid (∀w',Fr nothing w1 w'->w'.cell? ⟨g,o+(k+1)*4,none⟩=some (.int .i64 f2.fn)/\g<w'.heap.size):=fun w' hf=>⟨(hf.cell (p:=⟨g,_,none⟩) d' id).trans y0',Nat.lt_of_lt_of_le d' hf.size⟩
       have hf2x:=XX.fn;clear hx2 Ub XX hok2 y0' d'
       by_cases hp0:p=0
       ·as_aux_lemma=>
         obtain rfl:p=0:=by omega
         have hR:R=10:=HB.out 10 (by have h:=JI.out;rw[if_pos ⟨by simp,.inl rfl⟩] at h;exact h) (by decide);have u1z:wr.cell? ⟨g,o+k*4+1,none⟩=some (.int .i64 0):=u1;clear u1
         go_wp2_with (go_at_call 37;refine Qx.out.mono ?_;rintro e w7 ⟨hs,rfl,dZ,iM⟩;obtain⟨⟨y0,y1,y2,y3⟩,y4,yl,-,-⟩:=dJ.out w7 dZ;obtain⟨nh,-⟩:=ay iM;obtain⟨gh,oh,eh,dh,uh⟩:=iZ iM Qz.out;obtain⟨hsa,hsn,hsc⟩:=hs;simp only at nh eh;subst nh eh;rw[HLEN.out] at iM⊢;obtain⟨⟨-,-,-,-,t4⟩,⟨t5,-,-,-⟩,tl⟩:=jY.out w7 (dJ.out w7 dZ).2.2.2.1;have yl0:wr.heap.size<w7.heap.size:=Nat.lt_trans (Nat.lt_succ_self _) yl;simp only[Nat.add_zero] at uh;have dH:=hide dZ;have Zd:=hide iM;clear dZ iM)
         all_goals
          go_ret
          exact⟨by first|rfl|(rw[hR];rfl),iy.out.trans (dJ.out _ dH.out).2.2.2.1⟩
       obtain⟨p',rfl⟩:∃p',p=p'+1:=⟨p-1,by omega⟩
       have hpi:p'<c.ins.length:=by omega
       have hpm:((p'+1:Nat):Int)-1=(p':Int):=by omega
       have hgi:c.ins[p']?=some c.ins[p']:=List.getElem?_eq_getElem hpi;have JJ:c.ins.getD p' uw=c.ins[p']:=by simp[List.getD_eq_getElem?_getD,hgi]
       have him:c.ins[p']∈c.ins:=List.getElem_mem hpi;generalize c.ins[p']=it at hgi JJ him;obtain⟨JK,XQ,ei,di,XT,XU,XV⟩:=iB (s:=⟨qa,c.ins.length,qc⟩) HQ3.out hgi;simp only at ei;subst ei;have h13:=aaH.out.2 it him;obtain⟨JM,ia,ib⟩:=it;simp only at XT XU XV h13;have HI7:Hid (∀w',Fr nothing w1 w'->w'.cell? ⟨JK,XQ+p'*3,none⟩=some (.int .i64 JM)/\w'.cell? ⟨JK,XQ+p'*3+1,none⟩=some (.int .i64 ia)/\w'.cell? ⟨JK,XQ+p'*3+2,none⟩=some (.int .i64 ib)/\JK<w'.heap.size):=fun w' hf=>
        ⟨(hf.cell (p:=⟨JK,_,none⟩) di id).trans XT,(hf.cell (p:=⟨JK,_,none⟩) di id).trans XU,(hf.cell (p:=⟨JK,_,none⟩) di id).trans XV,Nat.lt_of_lt_of_le di hf.size⟩
       have hgh:=HHG.out p' hpi;have hrh:=jF c.ins _ (List.mem_of_getElem? hgh);obtain⟨n1,hn1⟩:∃x,bN c p'=x:=⟨_,rfl⟩
       rw[hn1] at hgh hrh;have Dr:=JI.out;simp only[Nat.add_sub_cancel,JJ,hn1] at Dr;have HGH:=hide hgh;clear JI XT XU XV di hgi JJ hn1 hgh him;have sK:Hid (frameC a.pg f (17,f2.fn)=if n1=-1\/JM≠17\/ia≠f2.fn then 10 else if(f.stack.length:Int)≠n0-1 then 10 else 0):=by
        have h:¬(((p'+1:Nat):Int)=0):=by omega
        simp only[ne_eq,h,false_or,true_and,not_false_eq_true,if_true,(by decide:¬(17:Int)=0)] at Dr;exact Dr
       clear Dr
       go_wp2_with (go_at_call 37;refine Qx.out.mono ?_;rintro e w7 ⟨hs,rfl,dZ,iM⟩;obtain⟨⟨y0,y1,y2,y3⟩,y4,yl,-,-⟩:=dJ.out w7 dZ;obtain⟨nh,-⟩:=ay iM;obtain⟨gh,oh,eh,dh,uh⟩:=iZ iM Qz.out;obtain⟨gh2,oh2,XW,dh2,uh2⟩:=iZ iM HGH.out;obtain⟨hsa,hsn,hsc⟩:=hs;simp only at nh eh XW;subst nh eh;simp only[Option.some.injEq,Addr.mk.injEq,and_true] at XW;obtain⟨rfl,rfl⟩:=XW;obtain⟨vi0,vi1,vi2,vil⟩:=HI7.out w7 (dJ.out w7 dZ).2.2.2.1;rw[HLEN.out] at iM⊢;obtain⟨⟨-,-,-,-,t4⟩,⟨t5,-,-,-⟩,tl⟩:=jY.out w7 (dJ.out w7 dZ).2.2.2.1;have yl0:wr.heap.size<w7.heap.size:=Nat.lt_trans (Nat.lt_succ_self _) yl;have dH:=hide dZ;have Zd:=hide iM;clear dZ iM)
       have mI:=af (Fr.refl nothing (w7.alloc (.cells #[.int .i64 JM,.int .i64 ia,.int .i64 ib] 82))) id;have HMI:=hide mI;clear mI;have Sw:Hid (Fr nothing w7 (w7.alloc (.cells #[.int .i64 JM,.int .i64 ia,.int .i64 ib] 82)).drew):=((Fr.refl _ _).alloc _).drew
       by_cases s1:0<=n1
       case neg=>
        as_aux_lemma=>
         have d1:decide (0<=n1)=false:=decide_eq_false s1;simp only[d1];refine wp_region_held_drew (S:=fun _=>True) (by kernel_rfl) trivial (fun hHeld=>?_)
         refine tk 0 ?_
         refine tk 1 ?_
         refine dW 2 ?_
         refine dW 3 ?_
         refine dW 4 ?_
         refine tk 5 ?_
         refine tk 6 ?_
         refine dW 7 ?_
         refine dW 8 ?_
         refine dW 9 ?_
         refine dW 10 ?_
         refine dW 11 ?_
         refine dW 12 ?_
         refine dW 13 ?_
         refine dW 14 ?_
         refine dW 15 ?_
         refine dW 16 ?_
         refine tk 17 ?_
         refine tk 18 ?_
         refine wpAnyH_done (by kernel_rfl) ?_ _
         have hR:R=10:=HB.out 10 (by rw[sK.out];exact if_pos (.inl (by omega))) (by decide)
         go_wp2_with fail
         go_ret
         exact⟨by first|rfl|(rw[hR];rfl),iy.out.trans (dJ.out _ (dH.out.trans Sw.out)).2.2.2.1⟩
       have d1:decide (0<=n1)=true:=decide_eq_true s1;simp only[d1]
       by_cases s2:JM=17
       case neg=>
        as_aux_lemma=>
         have d2:(JM==17)=false:=by simpa using s2
         have d3:decide (JM=17)=false:=decide_eq_false s2;refine wp_region_held_drew (S:=fun w'=>w'.cell? ⟨w7.heap.size,0,none⟩=some (.int .i64 JM)) (by kernel_rfl) (HMI.out.1 0) (fun hHeld=>?_)
         refine tk 0 ?_
         refine tk 1 ?_
         refine tk 2 ?_
         refine tk 3 ?_
         refine tk 4 ?_
         try simp only[d2]
         try simp only[d3]
         refine tk 5 ?_
         refine tk 6 ?_
         try simp only[d2]
         try simp only[d3]
         refine dW 7 ?_
         refine dW 8 ?_
         refine dW 9 ?_
         refine dW 10 ?_
         refine dW 11 ?_
         refine dW 12 ?_
         refine dW 13 ?_
         refine dW 14 ?_
         refine dW 15 ?_
         refine dW 16 ?_
         refine tk 17 ?_
         refine tk 18 ?_
         refine wpAnyH_done (by kernel_rfl) ?_ _
         have hR:R=10:=HB.out 10 (by rw[sK.out];exact if_pos (.inr (.inl s2))) (by decide)
         go_wp2_with fail
         go_ret
         exact⟨by first|rfl|(rw[hR];rfl),iy.out.trans (dJ.out _ (dH.out.trans Sw.out)).2.2.2.1⟩
       subst s2;have hc4:=(jY.out _ (dJ.out _ (dH.out.trans ((Fr.refl _ _).alloc (.cells #[.int .i64 17,.int .i64 ia,.int .i64 ib] 82)))).2.2.2.1).1.2.2.2.2;have TJ:=(HN2.out _ (dJ.out _ (dH.out.trans ((Fr.refl _ _).alloc (.cells #[.int .i64 17,.int .i64 ia,.int .i64 ib] 82)))).2.2.2.1).1;refine wp_region_held_drew (S:=fun w'=>w'.cell? ⟨w7.heap.size,0,none⟩=some (.int .i64 17)/\w'.cell? ⟨w7.heap.size,1,none⟩=some (.int .i64 ia)/\w'.cell? ⟨ab,4,none⟩=some (.slice (some ⟨g,o,none⟩) a.fr.length T9)/\w'.cell? ⟨g,o+(k+1)*4,none⟩=some (.int .i64 f2.fn)) (by kernel_rfl) ⟨HMI.out.1 0,HMI.out.1 1,hc4,TJ⟩ (fun hHeld=>?_)
       have hkw:IntKind.i64.wrap ((k:Int)+1)=(k:Int)+1:=aO _ (by omega) (by omega);have hki:0<=(k:Int)+1/\(k:Int)+1<(a.fr.length:Int):=by omega
       have hkt:((k:Int)+1).toNat=k+1:=by omega
       refine tk 0 ?_
       refine tk 1 ?_
       refine tk 2 ?_
       refine tk 3 ?_
       refine tk 4 ?_
       refine tk 5 ?_
       refine tk 6 ?_
       refine tk 7 ?_
       refine tk 8 ?_
       refine tk 9 ?_
       refine tk 10 ?_
       refine tk 11 ?_
       refine tk 12 ?_
       try simp only[hkw]
       refine tk 13 ?_ (hy:=by intro w hSw;(try dsimp only at hSw);go_simp;first|with_reducible rfl|exact Eq.refl _|(refine Eq.trans ?_ rfl;rfl))
       refine tk 14 ?_
       refine tk 15 ?_
       refine tk 16 ?_
       clear hkw hki hkt
       by_cases s3:ia=f2.fn
       case neg=>
        as_aux_lemma=>
         have d4:(ia==f2.fn)=false:=by simpa using s3
         have d5:decide (ia=f2.fn)=false:=decide_eq_false s3
         try simp only[d4]
         try simp only[d5]
         refine tk 17 ?_
         refine tk 18 ?_
         refine wpAnyH_done (by kernel_rfl) ?_ _
         have hR:R=10:=HB.out 10 (by rw[sK.out];exact if_pos (.inr (.inr s3))) (by decide)
         go_wp2_with fail
         go_ret
         exact⟨by first|rfl|(rw[hR];rfl),iy.out.trans (dJ.out _ (dH.out.trans Sw.out)).2.2.2.1⟩
       subst s3;have d4:(f2.fn==f2.fn)=true:=by simp
       have d5:decide (f2.fn=f2.fn)=true:=by simp
       try simp only[d4]
       try simp only[d5]
       refine tk 17 ?_
       refine tk 18 ?_
       refine wpAnyH_done (by kernel_rfl) ?_ _
       clear hHeld hc4 TJ;have HCZ:=dJ.out _ (dH.out.trans Sw.out);obtain⟨⟨z0,z1,z2,z3⟩,z4,zl,ES,XO⟩:=HCZ;obtain⟨⟨-,-,-,-,t4'⟩,⟨t5',-,-,-⟩,tl'⟩:=jY.out _ ES
       go_wp2_with fail
       all_goals first
        |(have hR:R=10:=HB.out 10 (by rw[sK.out,if_neg (fun e=>e.elim (by omega) (fun e=>e.elim (fun e=>e rfl) (fun e=>e rfl)))];exact if_pos (by first|exact OE (by omega) (by omega)|exact OG (by omega) (by assumption))) (by decide);go_ret;exact⟨by first|rfl|(rw[hR];rfl),iy.out.trans (dJ.out _ (dH.out.trans Sw.out)).2.2.2.1⟩)
        |skip
       have n2:n0-1=(f.stack.length:Int):=OH (by assumption);have HZ:Hid (frameC a.pg f (17,f2.fn)=0):=by
        have h:=sK.out;rw[if_neg (fun e=>e.elim (by omega) (fun e=>e.elim (fun e=>e rfl) (fun e=>e rfl))),if_neg (by omega)] at h;exact h
       clear sK z0 z1 z2 z3 z4 zl ES XO t4' t5' tl';obtain⟨⟨-,-,z2,z3⟩,-,zl,ES,XO⟩:=dJ.out _ (dH.out.trans Sw.out);obtain⟨q1,mW,q2,rG,r1,r2,g9,g10,g11,ho⟩:=xQ (w7.alloc (.cells #[.int .i64 17,.int .i64 f2.fn,.int .i64 ib] 82)).drew ⟨va,f.vars.length,vc⟩ ⟨sa,f.stack.length,aY⟩ f.vars f.stack (HK2.out.fr ES (fun _ _=>id)) (HK3.out.fr ES (fun _ _=>id)) (by omega) (by omega);rw[show(w7.alloc (.cells #[.int .i64 17,.int .i64 f2.fn,.int .i64 ib] 82)).drew.heap.size=w7.heap.size+1 by simp[World.drew]] at r1;have zy:∀w',Fr nothing (w7.alloc (.cells #[.int .i64 17,.int .i64 f2.fn,.int .i64 ib] 82)).drew w'->w'.cell? ⟨wr.heap.size,2,none⟩=some (.slice va f.vars.length vc)/\w'.cell? ⟨wr.heap.size,3,none⟩=some (.slice sa f.stack.length aY):=fun w' hf=>by
        have:=(dJ.out w' ((dH.out.trans Sw.out).trans hf)).1;exact⟨this.2.2.1,this.2.2.2⟩
       refine wp_region_held_drew (S:=fun w'=>w'.cell? ⟨wr.heap.size,2,none⟩=some (.slice va f.vars.length vc)/\w'.cell? ⟨wr.heap.size,3,none⟩=some (.slice sa f.stack.length aY)) (by kernel_rfl) ?_ (fun hHeld=>?_)
       ·exact⟨z2,z3⟩
       refine tk 1 ?_
       refine tk 2 ?_
       refine tk 4 ?_
       refine tk 5 ?_
       refine tk 8 ?_
       refine iP 0 (fun K hK=>?_)
       go_simp;refine hK _ _ (zy _ g9) (fun _=>?_)
       clear hK K hHeld
       try simp only[Act.put,sA,sZ,sS]
       have hHeld:=zy _ g9;refine iP 3 (fun K hK=>?_)
       refine fT rfl _ _ 49 rfl _ _ (by simp[Act.eval]) (by simp[Act.eval]) r1 ?_
       refine hK _ _ (zy _ g10) (fun _=>?_)
       clear hK K hHeld
       try simp only[Act.put,sA,sZ,sS]
       have hHeld:=zy _ g10;refine iP 6 (fun K hK=>?_)
       refine fT rfl _ _ 49 rfl _ _ (by simp[Act.eval]) (by simp[Act.eval]) r2 ?_
       refine hK _ _ (zy _ g11) (fun _=>?_)
       clear hK K hHeld
       try simp only[Act.put,sA,sZ,sS]
       have hHeld:=zy _ g11;refine tk 7 ?_
       refine wpAnyH_done (by kernel_rfl) ?_ _
       have AU:=hide ((dH.out.trans Sw.out).trans g11);have HO:=hide (ho.sl aK);obtain⟨V7,-⟩:=ay HO.out;obtain⟨q2a,aaI,q2c⟩:=q2;simp only at V7;subst V7;clear hHeld zy r1 r2 g9 g10 g11 ho z2 z3 zl ES XO;have V8:Hid (∀v∈f.vars++f.stack,wX v):=fun v hv=>by
        rcases List.mem_append.1 hv with hv|hv
        ·exact Zc.out.v v hv
        ·exact Zc.out.s v hv
       have hLl:(f.vars++f.stack).length<=100:=by rw[List.length_append];omega
       generalize f.vars++f.stack=L at HO V8 HV HN hLl
       go_wp2_with fail
       go_loopw [213,18,19] (fun i _ _ wv=>∃(v:Nat),v<=L.length/\i=.int .i64 v/\Hid (Fr nothing rG wv/\az (ah a.hp.length) (L.drop v)=az (ah a.hp.length) L)) (fun i _ _ _=>L.length-(intOf i).toNat)
       case atStart=>exact⟨0,Nat.zero_le _,rfl,Fr.refl _ _,rfl⟩
       case round=>
        as_aux_lemma=>
         obtain⟨v,hv,rfl,hRv⟩:=hrel;obtain⟨vo,hev⟩:=hRv.out;have zz:=(dJ.out _ (AU.out.trans vo)).2.2.2.1;have QA:=hide (dJ.out _ (AU.out.trans vo)).2.2.2.2
         by_cases hvl:v<L.length
         ·have hx:L[v]?=some L[v]:=List.getElem?_eq_getElem hvl;have hxm:L[v]∈L:=List.getElem_mem hvl;have hst:=fH (ah a.hp.length) L hx;rw[hev] at hst;generalize L[v]=x at hx hxm hst;have hwx:=V8.out x hxm;obtain⟨gv,ov,ev,dv,a0,a1,a2⟩:=kr (s:=⟨q2a,L.length,q2c⟩) HO.out hx;simp only at ev;subst ev;have dv':=Nat.lt_of_lt_of_le dv vo.size;rw[<-vo.cell (p:=⟨gv,_,none⟩) dv id] at a0 a1 a2;obtain⟨-,⟨i5,-,-,-⟩,il⟩:=jY.out _ zz;have hFn:Fr nothing wr (wr.alloc (.cells #[.int .i64 x.k,.int .i64 x.n,.string (bs x.t)] 53)):=(Fr.refl _ _).alloc _;have EP:=hide (jy x a.hp.length (wr.alloc (.cells #[.int .i64 x.k,.int .i64 x.n,.string (bs x.t)] 53)) hwx.t);have V9:=hide hFn;have HST:=hide hst;have HFV:=hide zz;have QB:=hide vo;clear hRv vo hev zz hx hxm hst hwx hFn
          by_cases h1:ah a.hp.length x=0
          ·have HE:Hid (az (ah a.hp.length) (L.drop (v+1))=az (ah a.hp.length) L):=by
            have:=HST.out;rw[if_neg (by simpa using h1)] at this;exact this.symm
           rw[h1] at EP
           go_wp2_with (go_at_call 15;refine EP.out.mono ?_;rintro e DN ⟨rfl,jU⟩;have zC:=hide (QB.out.trans (V9.out.trans jU));clear jU)
           go_roundw
           case rel=>exact⟨v+1,by omega,by go_num,zC.out,HE.out⟩
           case measure=>simp[intOf];omega
          ·have hR:R=ah a.hp.length x:=HV.out _ HZ.out (by have:=HST.out;rw[if_pos h1] at this;exact this) h1;generalize ah a.hp.length x=er at hR h1 EP;have h1b:(er !=0)=true:=by simpa using h1
           go_wp2_with (go_at_call 15;refine EP.out.mono ?_;rintro e DN ⟨rfl,jU⟩;have zC:=hide (HFV.out.trans (V9.out.trans jU));clear jU)
           go_ret
           exact⟨by first|rfl|(rw[hR];rfl),iy.out.trans zC.out⟩
         ·have HE:Hid (dO (dV a away) (a.fr.length-(k+1)) (k+1)=dO (dV a away) a.fr.length 0):=HN.out HZ.out (by rw[<-hev];exact gP _ _ (by omega));clear hRv vo hev zz
          go_wp2_with fail
          go_roundw
          case rel=>exact⟨k+1,by omega,by go_num,QA.out,HE.out⟩
          case measure=>simp[intOf];omega
    ·as_aux_lemma=>
      have hz:dO (dV a away) a.fr.length 0=0:=by rw[<-Ah,show a.fr.length-k=0 by omega,dO]
      have hd:=Sr.out;rw[hz,if_neg (by simp)] at hd;have HD2:=hide hd;have aX:Hid (Fr nothing w4 wr):=BS;obtain⟨⟨-,-,-,-,-⟩,⟨i5,-,-,-⟩,il⟩:=jY.out _ (gX.out.trans BS);have HHP:=hide HA1.out.hp;obtain⟨w5,xU⟩:∃x,x=wr:=⟨_,rfl⟩
      subst xU;clear hRk BS Ah hz hd Sr
      go_wp2_with fail
      clear i5 il
      go_loopw [230,21,22,23] (fun i _ _ _ wv=>∃(j:Nat),j<=a.hp.length/\i=.int .i64 j/\Hid (Fr nothing w5 wv/\az (cellC a.hp.length) (a.hp.drop j)=az (cellC a.hp.length) a.hp)) (fun i _ _ _ _=>a.hp.length-(intOf i).toNat)
      case atStart=>exact⟨0,Nat.zero_le _,rfl,Fr.refl _ _,rfl⟩
      case round=>
       obtain⟨j,hj,rfl,hRj⟩:=hrel;obtain⟨hfj,BD⟩:=hRj.out;have Dt:=gX.out.trans (aX.out.trans hfj)
       by_cases hjl:j<a.hp.length
       ·have hx:a.hp[j]?=some a.hp[j]:=List.getElem?_eq_getElem hjl;have hxm:a.hp[j]∈a.hp:=List.getElem_mem hjl;have hst:=fH (cellC a.hp.length) a.hp hx;rw[BD] at hst;generalize a.hp[j]=c at hx hxm hst;have hwc:=HW.out.hp c hxm;obtain⟨g,o,e1,dg,u0,u1,u2,u3,u4,u5⟩:=oq (s:=⟨sha,a.hp.length,shc⟩) HHP.out hx;simp only at e1;subst e1;have dg':=Nat.lt_of_lt_of_le dg Dt.size;rw[<-Dt.cell (p:=⟨g,_,none⟩) dg id] at u0 u1 u2 u3 u4 u5;obtain⟨cl,cr⟩:=c;obtain⟨lk,ln,lt⟩:=cl;obtain⟨rk,rn,rt⟩:=cr;simp only at u0 u1 u2 u3 u4 u5 hwc;obtain⟨-,⟨i5,-,-,-⟩,il⟩:=jY.out _ Dt;have jf:Fr nothing wr (wr.alloc (.cells #[.int .i64 lk,.int .i64 ln,.string (bs lt),.int .i64 rk,.int .i64 rn,.string (bs rt)] 88)):=(Fr.refl _ _).alloc _;have mb:=af (Fr.refl nothing (wr.alloc (.cells #[.int .i64 lk,.int .i64 ln,.string (bs lt),.int .i64 rk,.int .i64 rn,.string (bs rt)] 88))) id;have HL:=hide (fun w'=>jy ⟨lk,ln,lt⟩ a.hp.length w' hwc.1.t);have HRR:=hide (fun w'=>jy ⟨rk,rn,rt⟩ a.hp.length w' hwc.2.t);have hcc:cellC a.hp.length ⟨⟨lk,ln,lt⟩,⟨rk,rn,rt⟩⟩=if ah a.hp.length ⟨lk,ln,lt⟩≠0 then ah a.hp.length ⟨lk,ln,lt⟩ else ah a.hp.length ⟨rk,rn,rt⟩:=rfl;rw[hcc] at hst;obtain⟨el,hel⟩:∃x,ah a.hp.length ⟨lk,ln,lt⟩=x:=⟨_,rfl⟩
        obtain⟨er,her⟩:∃x,ah a.hp.length ⟨rk,rn,rt⟩=x:=⟨_,rfl⟩
        simp only[hel,her] at hst;simp only[hel] at HL;simp only[her] at HRR;have HST:=hide hst;have DV:=hide jf;have oK:=hide mb;have Gh:=hide Dt;have HFj:=hide hfj;clear hRj hfj BD hx hxm hst hwc Dt jf mb hcc hel her
        by_cases h1:el=0
        case neg=>
         have h1b:(el !=0)=true:=by simpa using h1
         have hR:R=el:=by
          have:=HST.out;simp only[h1,ne_eq,not_false_eq_true,if_true] at this;exact HD2.out.trans this
         go_wp2_with (go_at_call 15;refine(HL.out _).mono ?_;rintro e w7 ⟨rfl,dZ⟩;have dH:=hide (Gh.out.trans (DV.out.trans dZ));clear dZ)
         go_ret
         exact⟨by first|rfl|(rw[hR];rfl),iy.out.trans dH.out⟩
        subst h1
        by_cases h2:er=0
        case neg=>
         have h2b:(er !=0)=true:=by simpa using h2
         have hR:R=er:=by
          have:=HST.out;simp only[h2,ne_eq,not_true_eq_false,not_false_eq_true,if_true,if_false] at this;exact HD2.out.trans this
         go_wp2_with (first
          |(go_at_call 15;refine(HRR.out w7).mono ?_;rintro e w8 ⟨rfl,oN⟩;have lK:=hide (Gh.out.trans (dH.out.trans oN));clear oN)
          |(go_at_call 15;refine(HL.out _).mono ?_;rintro e w7 ⟨rfl,dZ⟩;have n3:=(dZ.cell (p:=⟨wr.heap.size,3,none⟩) oK.out.2.2 id).trans (oK.out.1 3);have n4:=(dZ.cell (p:=⟨wr.heap.size,4,none⟩) oK.out.2.2 id).trans (oK.out.1 4);have n5:=(dZ.cell (p:=⟨wr.heap.size,5,none⟩) oK.out.2.2 id).trans (oK.out.1 5);have nl:=Nat.lt_of_lt_of_le oK.out.2.2 dZ.size;obtain⟨-,⟨p5,-,-,-⟩,pl⟩:=jY.out w7 (Gh.out.trans (DV.out.trans dZ));have dH:=hide (DV.out.trans dZ);clear dZ))
         go_ret
         exact⟨by first|rfl|(rw[hR];rfl),iy.out.trans lK.out⟩
        subst h2;have HE:Hid (az (cellC a.hp.length) (a.hp.drop (j+1))=az (cellC a.hp.length) a.hp):=by
         have:=HST.out;simp only[ne_eq,not_true_eq_false,if_false] at this;exact this.symm
        go_wp2_with (first
         |(go_at_call 15;refine(HRR.out w7).mono ?_;rintro e w8 ⟨rfl,oN⟩;have lK:=hide (HFj.out.trans (dH.out.trans oN));clear oN)
         |(go_at_call 15;refine(HL.out _).mono ?_;rintro e w7 ⟨rfl,dZ⟩;have n3:=(dZ.cell (p:=⟨wr.heap.size,3,none⟩) oK.out.2.2 id).trans (oK.out.1 3);have n4:=(dZ.cell (p:=⟨wr.heap.size,4,none⟩) oK.out.2.2 id).trans (oK.out.1 4);have n5:=(dZ.cell (p:=⟨wr.heap.size,5,none⟩) oK.out.2.2 id).trans (oK.out.1 5);have nl:=Nat.lt_of_lt_of_le oK.out.2.2 dZ.size;obtain⟨-,⟨p5,-,-,-⟩,pl⟩:=jY.out w7 (Gh.out.trans (DV.out.trans dZ));have dH:=hide (DV.out.trans dZ);clear dZ))
        go_roundw
        case rel=>exact⟨j+1,by omega,by go_num,lK.out,HE.out⟩
        case measure=>simp[intOf];omega
       ·have hR0:R=0:=by rw[HD2.out,<-BD];exact gP _ _ (by omega)
        have V6:=hide (iy.out.trans Dt);subst hR0;clear hRj hfj BD Dt
        go_wp2_with fail
        go_ret
        exact⟨rfl,V6.out⟩
end
end Go.Proofs.YtbcadjgpcfmkfaaGreatDoor
