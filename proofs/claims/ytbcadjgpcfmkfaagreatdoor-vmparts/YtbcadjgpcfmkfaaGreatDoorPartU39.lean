/- RStF; RDeep; RMk0. -/
import Derived.Deep.DeepCutAuto
import Derived.Test.YtbcadjgpcfmkfaaGreatDoorPartU38
import Derived.Test.YtbcadjgpcfmkfaaGreatDoorPartU1
import Derived.Test.YtbcadjgpcfmkfaaGreatDoorPartU36
import Derived.Test.YtbcadjgpcfmkfaaGreatDoorPartU35
import Derived.Test.YtbcadjgpcfmkfaaGreatDoorPartU7
set_option maxHeartbeats 0
set_option maxRecDepth 100000
set_option linter.unusedSimpArgs false
namespace Go.Proofs.YtbcadjgpcfmkfaaGreatDoor
open Go Go.RowKit
section
theorem uP {P:Program} {w:World} {ops:Array Oper} {rest:List Oper} {o:Oper} {a:Act} {Q:Exit->Act->World->Prop} (hg:o.guard=none) (m:Operand) (t:TypeId) (hop:o.op=Op.range t m) (p:Value) (hm:a.eval m=p) {v:Value} {w':World} (hrun:(Instr.range t p).run P w=.ok v w') (h:wpList P ops Q rest (a.put o.dst v) w'):wpList P ops Q (o::rest) a w:=by
 refine wpList_plain hg fun K' hK'=>?_
 unfold Oper.wp;simp[execOp,hop,hm,hrun,Result.andThen]
 exact hK' _ _ h
theorem FJ (l:List Fn) (L:List St) (ih:∀k t a x y,St.mk k t a x y∈L->k≠3/\k≠4):aa8 l L:=by
 intro c T v ws E nm ab sl rs w hK hFN DX hS hP hE hU hV hW hN hSh Zl;obtain⟨hln,hlm⟩:=ay hS;obtain⟨la,ln,lc⟩:=sl;simp only at hln;rw[hE.1] at hln;subst hln;have hll:L.length<=9223372036854775807:=by have:=hE.1;omega
 obtain⟨A,a1,a2,a3⟩:=DX.m;have hF1:Fr nothing w (w.alloc (.cells #[.slice none 0 0] 77)):=(Fr.refl _ _).alloc _;have hF2:Fr nothing w ((w.alloc (.cells #[.slice none 0 0] 77)).alloc (.map #[] 0)):=hF1.alloc _;have hsz:(w.alloc (.cells #[.slice none 0 0] 77)).heap.size=w.heap.size+1:=by simp
 have hmk:=SI.made (w.alloc (.cells #[.slice none 0 0] 77));rw[hsz] at hmk;have hoc:=af (cs:=#[.slice none 0 0]) (t:=77) (w:=w) ((Fr.refl nothing (w.alloc (.cells #[.slice none 0 0] 77))).alloc (.map #[] 0)) id;obtain⟨w3,hrg,hCp,tO,hs3⟩:=Cp.start (a1.fr hF2 id) _ hmk;have hab:ab<w.heap.size:=DX.lt;have hmm:=@run_makeMap Tryz.prog;have hs2:((w.alloc (.cells #[.slice none 0 0] 77)).alloc (.map #[] 0)).heap.size=w.heap.size+2:=by simp
 rw[hs2] at hrg hCp;have acM:=hide (hF2.trans tO);have HOC:=hide (And.intro ((tO.cell (p:=⟨w.heap.size,0,none⟩) hoc.2.2 id).trans (hoc.1 0)) ((tO.frozen (p:=⟨w.heap.size,0,none⟩) hoc.2.2 id).trans (hoc.2.1 0)));have HCP:=hide hCp;have HK:=hide hK;have ni:=hide hFN;have HAT:=hide DX;have HA2:=hide a2;have HS:=hide hS;have HP:=hide hP;have HE:=hide hE;have HU:=hide hU;have HSH:=hide hSh;have HKD:=hide Zl;clear hF1 hF2 hsz hmk hoc hCp tO hs3 hK hFN DX a1 a2 hS hP hE hU hSh Zl
 go_enter Tryz.func59,Tryz.ntmps59
 go_wp2_with (at_range;go_must (refine uP rfl _ _ rfl _ rfl hrg ?_))
 go_frame
 go_loopw [9,10] (fun _ _ wr=>Hid (Cp ab (w.heap.size+1) (w.heap.size+2) A wr/\Fr (fun k=>k=w.heap.size+2\/k=w.heap.size+1) w3 wr)) (fun _ _ wr=>wr.rangeLeft ab (w.heap.size+2))
 case atStart=>exact⟨HCP.out,Fr.refl _ _⟩
 case round=>
  obtain⟨hC,hF⟩:=hrel.out;rcases hC.step 0 (by omega) (by omega) (by omega) with⟨hn,B,hB,hBf,hBn⟩|⟨x,cc,w1,w2,hn,hen,hup,hC2,hF2,hlt⟩
  ·have tO:Fr nothing w wr:=acM.out.then hF (fun k hk e=>by omega);have ho:=(hF.cell (p:=⟨w.heap.size,0,none⟩) (lt_of_cell HOC.out.1) (by show ¬(w.heap.size=w.heap.size+2\/w.heap.size=w.heap.size+1);omega)).trans HOC.out.1
   have hoz:=(hF.frozen (p:=⟨w.heap.size,0,none⟩) (lt_of_cell HOC.out.1) (by show ¬(w.heap.size=w.heap.size+2\/w.heap.size=w.heap.size+1);omega)).trans HOC.out.2;have hG0:SG c T w w.heap.size (w.heap.size+1) ⟨[],E,v,ws⟩ nm T aN wr:=by
    refine⟨.J9 HK.out tO,HK.out.fl,ho,hoz,gM.nil _ _,⟨⟨B,hB,fun u hu=>by rw[hBf];exact HA2.out u hu,Nat.le_trans hBn a3⟩,fun e=>by have:=HK.out.tl _ e;omega⟩,fun e=>by have:=HK.out.tl _ e;omega,⟨Nat.le_refl _,by omega,by omega⟩,fun b hb=>by cases hb⟩
   have HG0:=hide hG0;have hol:=hG0.ol;clear hC hF hB hBf hBn tO ho hoz hG0 hrel
   go_wp2_with (at_next;go_must (refine nJ rfl _ rfl _ rfl hn ?_))
   obtain⟨ob,dF⟩:∃x,x=w.heap.size:=⟨_,rfl⟩
   obtain⟨ib,hib⟩:∃x,x=w.heap.size+1:=⟨_,rfl⟩
   rw[<-hib,<-dF] at HG0;rw[<-hib];rw[<-dF];have acN:w.heap.size+2=ob+2:=by rw[dF]
   clear dF hib acN
   go_loopw [35,12,13,15,16,17,18,19,20,21] (fun i _ _ _ _ _ _ _ _ _ wv=>∃(j:Nat),j<=L.length/\i=.int .i64 j/\Hid (∃T' q NH,SG c T w ob ib (dY (gW l) (L.take j) E v ws 0) NH T' q wv/\xD (Kb l) (L.drop j) NH)) (fun i _ _ _ _ _ _ _ _ _ _=>L.length-(intOf i).toNat)
   case atStart=>exact⟨0,Nat.zero_le _,rfl,T,aN,nm,HG0.out,HU.out⟩
   case round=>
    obtain⟨j,hj,rfl,hR⟩:=hrel
    by_cases hjl:j<L.length
    ·have hx:L[j]?=some L[j]:=List.getElem?_eq_getElem hjl;have hr:rs[j]?=some (rs[j]'(by rw[HE.out.1];omega)):=List.getElem?_eq_getElem _
     have hxm:L[j]∈L:=List.getElem_mem hjl;have hdr:L.drop j=L[j]::L.drop (j+1):=List.drop_eq_getElem_cons hjl;have htk:L.take (j+1)=L.take j++ [L[j]]:=(List.take_append_getElem hjl).symm;have htn:=Dz L j hjl;generalize rs[j]'(by rw[HE.out.1];omega)=r at hr
     generalize L[j]=st at hx hxm hdr htk htn;have hok:=HE.out.2 j r st hr hx;obtain⟨g,o,hg,dg,p0,p1,p2,p3,p4⟩:=Fs (s:=⟨la,L.length,lc⟩) HS.out hr;simp only at hg;subst hg;obtain⟨T',q,NH,hG,hUj⟩:=hR.out;have Dt:=hG.rp.2.1;have hgT:=(HP.out g rfl).1;rw[<-Dt.cell (p:=⟨g,_,none⟩) dg hgT] at p0 p1 p2 p3 p4;have eg:g<wr.heap.size:=Nat.lt_of_lt_of_le dg Dt.size;have hle:=pO (gW l) (L.take j) E v ws 0;obtain⟨R,hRR⟩:∃R,R=dY (gW l) (L.take j) E v ws 0:=⟨_,rfl⟩
     rw[<-hRR] at hG hle;cases hok with
     |mk k t sa sx sy ra rx ry a x y ha hPa ha2 hsx Vu hx1 hx2 hsy Vv hyl hy2=>
     have aa9:=ih k t a x y hxm;obtain⟨Yz,hsam⟩:=ay ha;simp only at p0 p1 p2 p3 p4;rw[Ap] at htn;obtain⟨aba,abb,htl,abd,abe,abf⟩:(k≠3->k≠4->x=[])/\(k≠3->y=[])/\t.length<=1500/\(∀e∈a,um e)/\(∀s∈x,uo s)/\(∀s∈y,uo s):=by
      cases HSH.out _ hxm with
      |mk h1 h2 h3 h4 h5 h6=>exact⟨h1,h2,h3,h4,h5,h6⟩
     have hKe:=Cm HKD.out _ hxm;rw[UJ] at hKe;rw[hdr,xD] at hUj;obtain⟨hU1,hU2⟩:=hUj;rw[stU] at hU1;obtain⟨aa,an,ac⟩:=sa;simp only at Yz;rw[ha2.1] at Yz;subst Yz;have hal:a.length<=9223372036854775807:=by have:=ha2.1;omega
     have xR:=hG.begin (vs:=[.int .i64 k,.string (bs t),.slice aa a.length ac,.slice sx.a sx.n sx.c,.slice sy.a sy.n sy.c]) (so ⟨k,t,⟨aa,a.length,ac⟩,sx,sy⟩) ⟨_,_,rfl,rfl⟩ 77 rfl;have iL:=hide xR;have HHA:=hide (And.intro ha (And.intro hPa ha2));have HHX:=hide (And.intro hsx (And.intro Vu (show Each (gy w (ap T w)) rx x from⟨hx1,hx2⟩)));have HHY:=hide (And.intro hsy (And.intro Vv (show Each (gy w (ap T w)) ry y from⟨hyl,hy2⟩)));have HKE:=hide hKe;have HU1:=hide hU1;have HU2:=hide hU2;have HSX:=hide (And.intro aba (And.intro abb (And.intro abd (And.intro abe abf))));have HRR:=hide hRR;have s2:=xR.s 2 _ rfl;have ssl:=xR.sl;have l1:=hle.i;have l2:=hle.v;have l3:=hle.w;clear hR hG Dt hle xR ha hPa ha2 hsx Vu hx1 hx2 hsy Vv hyl hy2 hKe hU1 hU2 aba abb abd abe abf hRR hr hx hgT
     go_wp2_with fail
     generalize xU:(wr.alloc (so ⟨k,t,⟨aa,a.length,ac⟩,sx,sy⟩)).alloc (.cells #[.slice none 0 0] 77)=w5 at*;clear xU;obtain⟨gb,hgb⟩:∃x,x=wr.heap.size+1:=⟨_,rfl⟩
     obtain⟨sb,hsb⟩:∃x,x=wr.heap.size:=⟨_,rfl⟩
     rw[<-hgb,<-hsb] at iL;rw[<-hsb] at s2 ssl;rw[<-hgb];rw[<-hsb];clear hgb hsb p0 p1 p2 p3 p4
     go_loopw [42,15] (fun i _ wv=>∃(j2:Nat) (T2:Nat->Prop) (qa:ai),j2<=a.length/\i=.int .i64 j2/\Hid (SA c T w ob ib gb sb {R with ws:=(aM (gW l) R.E (a.take j2) R.ws).ws} NH T2 q qa (aM (gW l) R.E (a.take j2) R.ws).ins [.int .i64 k,.string (bs t),.slice aa a.length ac,.slice sx.a sx.n sx.c,.slice sy.a sy.n sy.c] wv)) (fun i _ _=>a.length-(intOf i).toNat)
     case atStart=>exact⟨0,T',aN,Nat.zero_le _,rfl,iL.out⟩
     case round=>
      obtain⟨j2,T2,qa,hj2,rfl,hR⟩:=hrel
      by_cases M6:j2<a.length
      ·have hx:a[j2]?=some a[j2]:=List.getElem?_eq_getElem M6;have hr:ra[j2]?=some (ra[j2]'(by rw[HHA.out.2.2.1];omega)):=List.getElem?_eq_getElem _
       have Bb:a[j2]∈a:=List.getElem_mem M6;have abg:a.take (j2+1)=a.take j2++ [a[j2]]:=(List.take_append_getElem M6).symm;have acO:=tH a j2 M6;generalize ra[j2]'(by rw[HHA.out.2.2.1];omega)=r at hr
       generalize a[j2]=xx at hx Bb abg acO;have hok:=HHA.out.2.2.2 j2 r xx hr hx;obtain⟨g2,o2,hg2,-,Gi,u0,u1,u2,u3⟩:=tC (s:=⟨aa,a.length,ac⟩) HHA.out.1 hr;simp only at hg2;subst hg2;have xR:=hR.out;have hF2:=xR.g.rp.2.1;rw[<-hF2.cell (p:=⟨g2,_,none⟩) Gi (HHA.out.2.1 g2 rfl).1] at u0 u1 u2 u3;have Zq:g2<wr.heap.size:=Nat.lt_of_lt_of_le Gi hF2.size;have jf:Fr nothing wr (wr.alloc (eo r)).drew:=((Fr.refl nothing wr).alloc _).drew;have hok2:bF (wr.alloc (eo r)).drew (ap T2 (wr.alloc (eo r)).drew) r xx:=av _ _ nothing _ _ _ _ (av _ _ T _ _ _ _ hok hF2 (fun k hk=>hk.1) (Lj hF2 xR.g.rp.2.2)) jf (fun _ _=>id) (fun k hk=>⟨hk.1,Nat.lt_of_lt_of_le hk.2 jf.size⟩);have Xf:=xR.new jf;have hwl:=mR (gW l) R.E (a.take j2) R.ws;have Yt:=hide (Ck l xx c T2 R.v (aM (gW l) R.E (a.take j2) R.ws).ws R.E NH ib r (wr.alloc (eo r)).drew Xf.g.rp.1 ni.out Xf.g.a.ok hok2 (xE HU1.out.1 xx Bb) (by omega) (by omega) (HSX.out.2.2.1 xx Bb) (uM HKE.out.2.2.1 xx Bb));have hm:=af (cs:=#[.int .i64 r.k,.int .i64 r.n,.string (bs r.t),.slice r.s.a r.s.n r.s.c]) (t:=139) (w:=wr) ((Fr.refl nothing (wr.alloc (eo r))).drew) id;have hgc:=Xf.gc;have hgl:=Xf.gl;have HHM:=hide hm;have DV:=hide jf;have YA:=hide xR;clear hR xR hF2 hok hok2 jf Xf hr hx hwl;obtain⟨rk,rn,rt,⟨ea,en,ec⟩⟩:=r;obtain⟨qx,qn,qc⟩:=qa;simp only at u0 u1 u2 u3;replace hgc:(wr.alloc (eo ⟨rk,rn,rt,⟨ea,en,ec⟩⟩)).drew.cell? ⟨gb,0,none⟩=some (.slice qx qn qc):=hgc
       go_wp2_with fail
       have m0:=HHM.out.1 0;have m1:=HHM.out.1 1;have m2:=HHM.out.1 2;have m3:=HHM.out.1 3;have ml:=HHM.out.2.2;obtain⟨eb,YB⟩:∃x,x=wr.heap.size:=⟨_,rfl⟩
       rw[<-YB] at m0 m1 m2 m3 ml;rw[<-YB];generalize hwz:wr.alloc (eo ⟨rk,rn,rt,⟨ea,en,ec⟩⟩)=wz at*;have UK:¬T2 eb:=fun e=>by have:=YA.out.g.rp.1.tl _ e;omega
       have UL:¬(Value.slice qx qn qc).ownBlock=some eb:=fun e=>by have:=(YA.out.ga.lt e).2;omega
       clear hwz YB;refine aS (S:=fun w'=>w'.cell? ⟨gb,0,none⟩=some (.slice qx qn qc)/\w'.cell? ⟨eb,0,none⟩=some (.int .i64 rk)/\w'.cell? ⟨eb,1,none⟩=some (.int .i64 rn)/\w'.cell? ⟨eb,2,none⟩=some (.string (bs rt))/\w'.cell? ⟨eb,3,none⟩=some (.slice ea en ec)) (by kernel_rfl) [6] ?_ (fun hHeld=>?_)
       ·exact⟨hgc,m0,m1,m2,m3⟩
       refine bM 0 ?_
       refine bM 1 ?_
       refine bM 2 ?_
       refine bM 3 ?_
       refine jN 4 (fun K hK=>?_)
       refine aF (by rfl) 70 Tryz.f70 #[.tmp 47,.tmp 48,.tmp 49] #[120,139,123] rfl Tryz.func70 (by kernel_rfl) (by kernel_rfl) #[.pointer (some ⟨c.mb,0,none⟩),ev ⟨rk,rn,rt,⟨ea,en,ec⟩⟩,.map (some ib)] (by simp[Act.eval,ev]) _ Yt.out ?_
       rintro e w6 ⟨q3,T3,rfl,hO3,fE,hq3⟩;refine⟨_,rfl,?_⟩
       have K6:=YA.out.call DV.out fE (Nat.le_refl _);have hl1:=ko (gW l) R.E (a.take j2) R.ws;have hl2:=CW (gW l) R.E xx (aM (gW l) R.E (a.take j2) R.ws).ws;obtain⟨q4,w7,hrun,FD,hS7⟩:=K6.put hO3.sl (by omega);have g6:=K6.gc;have gz6:=K6.gz;have gl6:=K6.gl;have n0:=(fE.2.1.cell (p:=⟨eb,0,none⟩) ml UK).trans m0;have n1:=(fE.2.1.cell (p:=⟨eb,1,none⟩) ml UK).trans m1;have n2:=(fE.2.1.cell (p:=⟨eb,2,none⟩) ml UK).trans m2;have n3:=(fE.2.1.cell (p:=⟨eb,3,none⟩) ml UK).trans m3;have nl:=Nat.lt_of_lt_of_le ml fE.2.1.size;have WX:¬(ai.v ⟨qx,qn,qc⟩).ownBlock=some gb:=fun e=>(K6.qt _ e).2.2.2.1 rfl;have HS7:=hide hS7;refine hK.out _ _ ⟨g6,n0,n1,n2,n3⟩ ?_
       clear hK K hHeld
       try simp only[Act.put,sA,sZ,sS]
       refine jN 5 (fun K hK=>?_)
       refine fT rfl _ _ 77 rfl _ _ (by simp[Act.eval]) (by simp[Act.eval]) hrun ?_
       have g7:=(FD.cell (p:=⟨gb,0,none⟩) gl6 WX).trans g6;have gz7:=(FD.frozen (p:=⟨gb,0,none⟩) gl6 WX).trans gz6;have gl7:=Nat.lt_of_lt_of_le gl6 FD.size;have o0:=(FD.cell (p:=⟨eb,0,none⟩) nl UL).trans n0;have o1:=(FD.cell (p:=⟨eb,1,none⟩) nl UL).trans n1;have o2:=(FD.cell (p:=⟨eb,2,none⟩) nl UL).trans n2;have o3:=(FD.cell (p:=⟨eb,3,none⟩) nl UL).trans n3;refine hK.out _ _ ⟨g7,o0,o1,o2,o3⟩ ?_
       clear hK K hrun K6 hS7 hO3 fE hq3 FD
       try simp only[Act.put,sA,sZ,sS]
       refine Al 6 (fun K hK=>?_)
       go_simp;refine hK.out _ _ ?_
       clear hK K
       try simp only[Act.put,sA,sZ,sS]
       refine wpAny_done (by kernel_rfl) ?_ _
       clear n0 n1 n2 n3 o0 o1 o2 o3 m0 m1 m2 m3 g6 g7 gz6 gz7 gl6 gl7
       go_wp2_with fail
       go_roundw
       case rel=>
        refine⟨j2+1,T3,q4,by omega,by go_num,?_⟩
        rw[abg,uO];exact HS7
       case measure=>simp[intOf];omega
      ·have FH:j2=a.length:=by omega
       have xR:=hR.out;rw[FH,List.take_length] at xR;obtain⟨AX,Zr⟩:∃AX,AX=aM (gW l) R.E a R.ws:=⟨_,rfl⟩
       rw[<-Zr] at xR;have hno:NF AX.ins:=by rw[Zr];exact Dy _ _ _ _
       have hlen:AX.ins.length<=iJ a:=by rw[Zr,ko];exact Nat.le_refl _
       have aaY:AX.ws.length<=R.ws.length+iJ a:=by rw[Zr];exact mR _ _ _ _
       have hsn:=Ch (gW l) (.mk k t a x y) (L.take j) E v ws 0 R _ HRR.out.symm rfl;rw[<-htk] at hsn;have Zt:=hide hsn;have s0:=xR.s 0 _ rfl;have s1:=xR.s 1 _ rfl;have s3:=xR.s 3 _ rfl;have s4:=xR.s 4 _ rfl;have ssl2:=xR.sl;have HS:=hide xR;have HAX:=hide Zr;clear hR xR FH hsn Zr hrg hn
       by_cases k1:k=1
       ·subst k1;have hS2:=HS.out.new (Fr.refl nothing wr).drew;obtain⟨w1,hup,hF1,hc2,hz2,hml,Zu⟩:=hS2.acL t htl (by show R.v<=_;omega)
        simp only at hup hc2 Zu;have hmc:=hS2.g.rp.1.c2;have hmz:=hS2.g.rp.1.ml;simp only at hmc;have t1:=(hF1.cell (p:=⟨sb,1,none⟩) hS2.sl hS2.sn.2.2.1).trans (hS2.s 1 _ rfl);have tl1:=Nat.lt_of_lt_of_le hS2.sl hF1.size;have hlk:=Zu.g.a.look (t:=t) (by simp) htl;simp only[upd,if_true] at hlk;have t3:=Zu.s 1 _ rfl;have tl3:=Zu.sl;have abh:=Zu.one 4 (R.v:Nat) (by decide) hno (by show R.ins.length<=_;omega) (by omega)
        have mg:=hide abh;have FK:xD (Kb l) (L.drop (j+1)) (NH++ [t]):=by
         have:=HU2.out;unfold Ef at this;simpa using this
        have Gm:=hide FK;rw[KI HAX.out.symm] at Zt;have hv1:((R.v+1:Nat):Int)=(R.v:Nat)+1:=by omega
        rw[hv1] at hlk t3 tl3 mg;have hr1:-9223372036854775808<=((R.v:Nat):Int)+1:=by omega
        have hr2:((R.v:Nat):Int)+1<=9223372036854775807:=by omega
        clear hS2 Zu hF1 abh FK hv1
        go_wp2_with fail
        refine aS (S:=fun w'=>w'.cell? ⟨sb,1,none⟩=some (.string (bs t))/\w'.cell? ⟨c.mb,2,none⟩=some (.int .i64 (R.v:Nat))) (by kernel_rfl) [7] ?_ (fun hHeld=>?_)
        ·exact⟨s1,hmc⟩
        refine bM 0 ?_
        refine bM 1 ?_
        refine bM 2 ?_
        refine bM 3 ?_
        refine jN 4 (fun K hK=>?_)
        go_simp;refine hK.out _ _ hHeld ?_
        clear hK K
        try simp only[Act.put,sA,sZ,sS]
        refine bM 5 ?_
        refine bM 6 ?_
        refine Al 7 (fun K hK=>?_)
        go_simp;refine hK.out _ _ ?_
        clear hK K
        try simp only[Act.put,sA,sZ,sS]
        refine wpAny_done (by kernel_rfl) ?_ _
        clear hHeld
        go_wp2_with (go_at_call 71;refine mg.out.mono ?_;rintro e w6 ⟨rfl,q',Wo⟩;have qd:=hide Wo;clear Wo)
        go_roundw
        case rel=>
         refine⟨j+1,by omega,by go_num,T2,q',NH++ [t],?_,Gm.out⟩
         rw[Zt.out];exact qd.out
        case measure=>simp[intOf];omega
       by_cases k2:k=2
       ·subst k2;have hmem:=HU1.out.2.2.1 rfl;have hlk:=HS.out.g.a.look hmem htl;simp only at hlk;have mg:=hide (HS.out.one 4 (R.E t) (by decide) hno (by show R.ins.length<=_;omega) (by omega))
        have FK:xD (Kb l) (L.drop (j+1)) NH:=by
         have:=HU2.out;unfold Ef at this;simpa using this
        have Gm:=hide FK;rw[KJ HAX.out.symm] at Zt;clear FK hmem k1
        go_wp2_with (go_at_call 71;refine mg.out.mono ?_;rintro e w6 ⟨rfl,q',Wo⟩;have qd:=hide Wo;clear Wo)
        go_roundw
        case rel=>
         refine⟨j+1,by omega,by go_num,T2,q',NH,?_,Gm.out⟩
         rw[Zt.out];exact qd.out
        case measure=>simp[intOf];omega
       have FK:xD (Kb l) (L.drop (j+1)) NH:=by
        have:=HU2.out;unfold Ef at this;simpa[k1] using this
       have Gm:=hide FK;clear FK
       by_cases k3:k=3
       ·exact absurd k3 aa9.1
       by_cases k4:k=4
       ·exact absurd k4 aa9.2
       have hkr:-9223372036854775808<=k/\k<=9223372036854775807:=by have:=HKE.out;omega
       obtain⟨m1,m2,m3,m4,m5,r1,r2,r3,r4,r5,r6,jd,hl5⟩:=UB wr;have hlk:=r6 k hkr.1 hkr.2;have e1:=UC k k1 k2 k3 k4;rw[e1] at hlk;have hS5:=HS.out.new jd;have t0:=hS5.s 0 _ rfl;have tl0:=hS5.sl;have mg:=hide (hS5.one (stOp k) 0 (UE k) hno (by show R.ins.length<=_;omega) (by omega))
       rw[Bq HAX.out.symm k1 k2 k3 k4] at Zt;have hmm:=@run_makeMap Tryz.prog;have p1:(k==1)=false:=by simpa using k1
       have p2:(k==2)=false:=by simpa using k2
       have p3:(k==3)=false:=by simpa using k3
       have p4:(k==4)=false:=by simpa using k4
       clear hS5 jd e1 r6 hkr
       go_wp2_with (go_at_call 71;refine mg.out.mono ?_;rintro e w6 ⟨rfl,q',Wo⟩;have qd:=hide Wo;clear Wo)
       go_roundw
       case rel=>
        refine⟨j+1,by omega,by go_num,T2,q',NH,?_,Gm.out⟩
        rw[Zt.out];exact qd.out
       case measure=>simp[intOf];omega
    ·obtain⟨T',q,NH,hG,hUj⟩:=hR.out;have vX:j=L.length:=by omega
     rw[vX,List.take_length] at hG;have hoc:=hG.o;have hol2:=hG.ol;have HG:=hide hG;clear hR hG hUj vX hrg hn;obtain⟨qx,qn,qc⟩:=q;replace hoc:wr.cell? ⟨ob,0,none⟩=some (.slice qx qn qc):=hoc
     go_wp2_with fail
     go_ret
     exact⟨⟨qx,qn,qc⟩,T',rfl,HG.out.ow,HG.out.rp,fun b hb=>(HG.out.qt b hb).1⟩
  ·have HC2:=hide (show Cp ab (w.heap.size+1) (w.heap.size+2) A w2/\Fr (fun k=>k=w.heap.size+2\/k=w.heap.size+1) w3 w2 from⟨hC2,hF.trans hF2⟩);clear hC hF hC2 hF2 hrel
   go_wp2_with (at_next;go_must (refine nJ rfl _ rfl _ rfl hn ?_))
   go_roundw
   case rel=>exact HC2.out
   case measure=>exact hlt
end
section
def M7 (n i:Nat) (l:List Ex):Nat:=max n (Aq i l)
theorem Lp (n i:Nat):M7 n i []=n:=by unfold M7;rw[Aq];omega
theorem FN (n i:Nat) (x:Ex) (l:List Ex):M7 n i (x::l)=M7 (max n (i+qo x)) (i+1) l:=by unfold M7;rw[Aq];omega
mutual
theorem zQ:∀(x:Ex),qo x<=rF x
 |.mk _ _ _ a=>by rw[qo,rF];have:=wH a 0;omega
theorem wH:∀(l:List Ex) (i:Nat),Aq i l<=i+iJ l
 |[],i=>by rw[Aq];omega
 |x::l,i=>by
  have h1:=zQ x;have h2:=wH l (i+1);have h3:=KG x;rw[Aq,iJ];omega
end
abbrev lo (w:World):Nat->Prop:=fun k=>k<w.heap.size
theorem Lr {w w':World} {r:rR} {x:Ex} (h:bF w (lo w) r x) (hf:Fr nothing w w'):bF w' (lo w') r x:=av _ _ nothing _ _ _ _ h hf (fun _ _=>id) (fun _ hk=>Nat.lt_of_lt_of_le hk hf.size)
def DEx (x:Ex):Prop:=∀(r:rR) (w:World),bF w (lo w) r x->rF x<=100000->Calls Tryz.prog 73 #[ev r] w fun e w'=>e=.returned (.int .i64 (qo x:Nat))/\Fr nothing w w'
theorem M8 (k n:Int) (t:Bs) (a:List Ex) (ih:∀x∈a,DEx x):DEx (.mk k n t a):=by
 intro r w hX hN;obtain⟨rk,rn,rt,⟨la,ln,lc⟩⟩:=r;cases hX with
 |mk _ _ _ _ rs _ hS hP hl hE=>
 obtain⟨hln,hlm⟩:=ay hS;simp only at hln;rw[hl] at hln;subst hln;rw[rF] at hN;have hll:a.length<=9223372036854775807:=by omega
 have qL:Fr nothing w (w.alloc (eo ⟨k,n,t,⟨la,a.length,lc⟩⟩)):=(Fr.refl _ _).alloc _;have HS:=hide hS;have HE:=hide (show Each (bF w (lo w)) rs a from⟨hl,hE⟩);have dL:=hide qL;have Sz:Hid (qo (.mk k n t a)=M7 1 0 a):=by show qo _=_;rw[qo];rfl
 clear hS hP hE qL hl
 go_enter Tryz.func73,Tryz.ntmps73
 go_wp2
 generalize w.alloc (eo ⟨k,n,t,⟨la,a.length,lc⟩⟩)=w2 at*
 go_loopw [9,3,4,5] (fun i v _ _ wr=>∃(j m:Nat),j<=a.length/\i=.int .i64 j/\v=.int .i64 m/\m<=200000/\Hid (Fr nothing w wr/\M7 1 0 a=M7 m j (a.drop j))) (fun i _ _ _ _=>a.length-(intOf i).toNat)
 case atStart=>exact⟨0,1,Nat.zero_le _,rfl,rfl,by omega,dL.out,rfl⟩
 case round=>
  obtain⟨j,m,hj,rfl,rfl,hm,hR⟩:=hrel
  by_cases hjl:j<a.length
  ·have hx:a[j]?=some a[j]:=List.getElem?_eq_getElem hjl;have hr:rs[j]?=some (rs[j]'(by rw[HE.out.1];omega)):=List.getElem?_eq_getElem _
   have hxm:a[j]∈a:=List.getElem_mem hjl;have hdr:a.drop j=a[j]::a.drop (j+1):=List.drop_eq_getElem_cons hjl;generalize rs[j]'(by rw[HE.out.1];omega)=r at hr
   generalize a[j]=x at hx hxm hdr;have hok:=HE.out.2 j r x hr hx;obtain⟨g,o,hg,-,dg,p0,p1,p2,p3⟩:=tC (s:=⟨la,a.length,lc⟩) HS.out hr;simp only at hg;subst hg;obtain⟨hF,hEq⟩:=hR.out;rw[<-hF.cell (p:=⟨g,_,none⟩) dg id] at p0 p1 p2 p3;have eg:g<wr.heap.size:=Nat.lt_of_lt_of_le dg hF.size;rw[hdr,FN] at hEq;have jf:Fr nothing wr (wr.alloc (eo r)):=(Fr.refl _ _).alloc _;have Oz:=CS hxm;have hdx:=zQ x;have hjn:j<=100000:=by
    have:=tF (l:=a) (j:=a.length) (Nat.le_refl _);omega
   have Yt:=hide (ih x hxm r (wr.alloc (eo r)) (Lr (Lr hok hF) jf) (by omega));have HF:=hide (hF.trans jf);have UM:=hide hEq;have hj0:(0:Int)<=(j:Nat):=by omega
   clear hR hF hEq jf hok hr hx;obtain⟨rk',rn',rt',rs4⟩:=r;simp only at p0 p1 p2 p3
   go_wp2_with (go_at_call 73;refine Yt.out.mono ?_;rintro e w3 ⟨rfl,hf⟩;have dX:=hide (HF.out.trans hf);clear hf)
   go_roundw
   case rel=>exact⟨j+1,max m (j+qo x),by omega,by go_num,by congr 1;omega,by omega,dX.out,UM.out⟩
   case measure=>simp[intOf];omega
  ·have vX:j=a.length:=by omega
   obtain⟨hF,hEq⟩:=hR.out;rw[vX,List.drop_length,Lp] at hEq;have HF:=hide hF;have HE2:=hide (Sz.out.trans hEq);clear hR hF hEq vX
   go_wp2
   go_ret
   rw[HE2.out];exact⟨rfl,HF.out⟩
theorem Cn:∀(x:Ex),DEx x
 |.mk k n t a=>M8 k n t a (fun x _=>Cn x)
def UO (n:Nat) (l:List St):Nat:=max n (gB l)
theorem UQ (n:Nat):UO n []=n:=by unfold UO;rw[gB];omega
theorem Rj (n:Nat) (k:Int) (t:Bs) (a:List Ex) (x y:List St) (l:List St):UO n (.mk k t a x y::l)=UO (max (max (M7 n 0 a) (gB x)) (gB y)) l:=by unfold UO M7;rw[gB,KH];omega
mutual
theorem Rl:∀(s:St),KH s<=Ap s
 |.mk _ _ a x y=>by rw[KH,Ap];have:=wH a 0;have:=mD x;have:=mD y;omega
theorem mD:∀(l:List St),gB l<=jq l
 |[]=>by rw[gB];omega
 |s::l=>by rw[gB,jq];have:=Rl s;have:=mD l;omega
end
theorem Rm {w w':World} {r:rU} {x:St} (h:gy w (lo w) r x) (hf:Fr nothing w w'):gy w' (lo w') r x:=aT _ _ nothing _ _ _ _ h hf (fun _ _=>id) (fun _ hk=>Nat.lt_of_lt_of_le hk hf.size)
def DSt (l:List St):Prop:=∀(sl:ai) (rs:List rU) (w:World),Sl encS 5 w sl.v rs->Each (gy w (lo w)) rs l->jq l<=100000->Calls Tryz.prog 60 #[.slice sl.a sl.n sl.c] w fun e w'=>e=.returned (.int .i64 (gB l:Nat))/\Fr nothing w w'
theorem Co (l:List St) (ih:∀k t a x y,St.mk k t a x y∈l->DSt x/\DSt y):DSt l:=by
 intro sl rs w hS hE hN;obtain⟨hln,hlm⟩:=ay hS;obtain⟨la,ln,lc⟩:=sl;simp only at hln;rw[hE.1] at hln;subst hln;have hll:l.length<=9223372036854775807:=by have:=hE.1;omega
 have HS:=hide hS;have HE:=hide hE;have Sz:Hid (gB l=UO 0 l):=by show gB _=_;unfold UO;omega
 clear hS hE
 go_enter Tryz.func60,Tryz.ntmps60
 go_wp2
 go_loopw [10,3,5,6,7] (fun i v _ _ _ wr=>∃(j m:Nat),j<=l.length/\i=.int .i64 j/\v=.int .i64 m/\m<=100000/\Hid (Fr nothing w wr/\UO 0 l=UO m (l.drop j))) (fun i _ _ _ _ _=>l.length-(intOf i).toNat)
 case atStart=>exact⟨0,0,Nat.zero_le _,rfl,rfl,by omega,Fr.refl _ _,rfl⟩
 case round=>
  obtain⟨j,m,hj,rfl,rfl,hm,hR⟩:=hrel
  by_cases hjl:j<l.length
  ·have hx:l[j]?=some l[j]:=List.getElem?_eq_getElem hjl;have hr:rs[j]?=some (rs[j]'(by rw[HE.out.1];omega)):=List.getElem?_eq_getElem _
   have hxm:l[j]∈l:=List.getElem_mem hjl;have hdr:l.drop j=l[j]::l.drop (j+1):=List.drop_eq_getElem_cons hjl;generalize rs[j]'(by rw[HE.out.1];omega)=r at hr
   generalize l[j]=st at hx hxm hdr;have hok:=HE.out.2 j r st hr hx;obtain⟨g,o,hg,dg,p0,p1,p2,p3,p4⟩:=Fs (s:=⟨la,l.length,lc⟩) HS.out hr;simp only at hg;subst hg;obtain⟨hF,hEq⟩:=hR.out;rw[<-hF.cell (p:=⟨g,_,none⟩) dg id] at p0 p1 p2 p3 p4;have eg:g<wr.heap.size:=Nat.lt_of_lt_of_le dg hF.size;obtain⟨k,t,⟨aa,an,ac⟩,sx,sy⟩:=r;cases hok with
   |mk _ _ _ _ _ ra rx ry a x y ha hPa ha2 hsx Vu hx1 hx2 hsy Vv hy1 hy2=>
   rw[hdr,Rj] at hEq;obtain⟨han,ham⟩:=ay ha;simp only at han;rw[ha2.1] at han;subst han;have hal:a.length<=9223372036854775807:=by have:=ha2.1;omega
   have hsn:=vT hxm;rw[Ap] at hsn;have jf:Fr nothing wr (wr.alloc (so ⟨k,t,⟨aa,a.length,ac⟩,sx,sy⟩)):=(Fr.refl _ _).alloc _;obtain⟨m0,m1,m2,m3,m4,mf,ml⟩:=Q5 (Fr.refl nothing (wr.alloc (so ⟨k,t,⟨aa,a.length,ac⟩,sx,sy⟩))) id;have HA:=hide ha;have HA2:=hide ha2;have iy:=hide (hF.trans jf);have DV:=hide jf;have UM:=hide hEq;have HIX:=hide (fun w' (hf:Fr nothing w w')=>(ih k t a x y hxm).1 sx rx w' (hsx.fr hf (fun _ _=>id)) ⟨hx1,fun i r z q1 q2=>Rm (hx2 i r z q1 q2) hf⟩ (by omega));have HIY:=hide (fun w' (hf:Fr nothing w w')=>(ih k t a x y hxm).2 sy ry w' (hsy.fr hf (fun _ _=>id)) ⟨hy1,fun i r z q1 q2=>Rm (hy2 i r z q1 q2) hf⟩ (by omega));have hbx:=mD x;have hby:=mD y;have hba:=wH a 0;simp only at p0 p1 p2 p3 p4 m0 m1 m2 m3 m4;clear hR hF hEq jf hr hx ha ha2 hPa hsx Vu hx1 hx2 hsy Vv hy1 hy2 mf;generalize hwb:wr.alloc (so ⟨k,t,⟨aa,a.length,ac⟩,sx,sy⟩)=wb at*
   go_wp2_with fail
   clear hwb eg;generalize wr.heap.size=bx at*
   go_loopw [17,3,6,7] (fun i v _ _ wv=>∃(j2 m2:Nat),j2<=a.length/\i=.int .i64 j2/\v=.int .i64 m2/\m2<=200000/\Hid (Fr nothing wb wv/\M7 m 0 a=M7 m2 j2 (a.drop j2))) (fun i _ _ _ _=>a.length-(intOf i).toNat)
   case atStart=>exact⟨0,m,Nat.zero_le _,rfl,rfl,by omega,Fr.refl _ _,rfl⟩
   case round=>
    obtain⟨j2,m2',hj2,rfl,rfl,hm2,hR⟩:=hrel
    by_cases Kg:j2<a.length
    ·have hx:a[j2]?=some a[j2]:=List.getElem?_eq_getElem Kg;have hr:ra[j2]?=some (ra[j2]'(by rw[HA2.out.1];omega)):=List.getElem?_eq_getElem _
     have Bb:a[j2]∈a:=List.getElem_mem Kg;have Rn:a.drop j2=a[j2]::a.drop (j2+1):=List.drop_eq_getElem_cons Kg;generalize ra[j2]'(by rw[HA2.out.1];omega)=r at hr
     generalize a[j2]=ex at hx Bb Rn;have hok:=HA2.out.2 j2 r ex hr hx;obtain⟨g2,o2,hg2,-,Gi,u0,u1,u2,u3⟩:=tC (s:=⟨aa,a.length,ac⟩) HA.out hr;simp only at hg2;subst hg2;obtain⟨hF,hEq⟩:=hR.out;have qy:=iy.out.trans hF;rw[<-qy.cell (p:=⟨g2,_,none⟩) Gi id] at u0 u1 u2 u3;have Zq:g2<wr.heap.size:=Nat.lt_of_lt_of_le Gi qy.size;rw[Rn,FN] at hEq;have ML:Fr nothing wr (wr.alloc (eo r)):=(Fr.refl _ _).alloc _;have Oz:=CS Bb;have hdx:=zQ ex;have hjn:j2<=100000:=by
      have:=tF (l:=a) (j:=a.length) (Nat.le_refl _);omega
     have Yt:=hide (Cn ex r (wr.alloc (eo r)) (Lr (Lr hok qy) ML) (by omega));have HF:=hide (hF.trans ML);have acP:=hide hEq;clear hR hF hEq ML hok hr hx qy;obtain⟨rk',rn',rt',rs4⟩:=r;simp only at u0 u1 u2 u3
     go_wp2_with (go_at_call 73;refine Yt.out.mono ?_;rintro e w3 ⟨rfl,hf⟩;have dX:=hide (HF.out.trans hf);clear hf)
     go_roundw
     case rel=>exact⟨j2+1,max m2' (j2+qo ex),by omega,by go_num,by congr 1;omega,by omega,dX.out,acP.out⟩
     case measure=>simp[intOf];omega
    ·have FH:j2=a.length:=by omega
     obtain⟨hF,hEq⟩:=hR.out;rw[FH,List.drop_length,Lp] at hEq;rw[hEq] at UM;have y3:=(hF.cell (p:=⟨bx,3,none⟩) ml id).trans m3;have y4:=(hF.cell (p:=⟨bx,4,none⟩) ml id).trans m4;have yl:=Nat.lt_of_lt_of_le ml hF.size;have HFv:=hide (iy.out.trans hF);have hb4:m2'<=100000:=by
      have:M7 m 0 a=max m (Aq 0 a):=rfl;omega
     clear hR hF hEq FH
     go_wp2_with fail
     refine wp_region_held_drew (S:=fun w'=>w'.cell? ⟨bx,3,none⟩=some (.slice sx.a sx.n sx.c)/\w'.cell? ⟨bx,4,none⟩=some (.slice sy.a sy.n sy.c)) (by kernel_rfl) ?_ (fun hHeld=>?_)
     ·exact⟨y3,y4⟩
     refine tk 0 ?_
     refine tk 1 ?_
     refine tk 2 ?_
     refine tk 4 ?_
     refine tk 5 ?_
     refine iP 3 (fun K hK=>?_)
     refine aF (by rfl) 60 Tryz.f60 #[.tmp 31] #[115] rfl Tryz.func60 (by kernel_rfl) (by kernel_rfl) #[.slice sx.a sx.n sx.c] (by simp[Act.eval]) _ (HIX.out _ HFv.out.drew) ?_
     rintro e w5 ⟨rfl,cK⟩;have F5:Fr nothing wr w5:=(Fr.refl nothing wr).drew.trans cK;refine⟨_,rfl,hK _ _ ⟨(F5.cell (p:=⟨bx,3,none⟩) yl id).trans y3,(F5.cell (p:=⟨bx,4,none⟩) yl id).trans y4⟩ (fun _=>?_)⟩
     clear hK K hHeld
     try simp only[Act.put,sA,sZ,sS]
     refine iP 6 (fun K hK=>?_)
     refine aF (by rfl) 60 Tryz.f60 #[.tmp 34] #[115] rfl Tryz.func60 (by kernel_rfl) (by kernel_rfl) #[.slice sy.a sy.n sy.c] (by simp[Act.eval]) _ (HIY.out _ (HFv.out.trans F5)) ?_
     rintro e w6 ⟨rfl,aR⟩;have F6:Fr nothing wr w6:=F5.trans aR;have lH:=And.intro ((F6.cell (p:=⟨bx,3,none⟩) yl id).trans y3) ((F6.cell (p:=⟨bx,4,none⟩) yl id).trans y4);refine⟨_,rfl,hK _ _ lH (fun _=>?_)⟩
     clear hK K
     try simp only[Act.put,sA,sZ,sS]
     refine iP 7 (fun K hK=>?_)
     go_simp;refine hK _ _ lH (fun _=>?_)
     clear hK K
     try simp only[Act.put,sA,sZ,sS]
     refine iP 8 (fun K hK=>?_)
     go_simp;refine hK _ _ lH (fun _=>?_)
     clear hK K
     try simp only[Act.put,sA,sZ,sS]
     refine wpAnyH_done (by kernel_rfl) ?_ _
     have bg:=hide (HFv.out.trans F6);clear cK aR F5 F6 lH
     go_wp2_with fail
     go_roundw
     case rel=>exact⟨j+1,max (max m2' (gB x)) (gB y),by omega,by go_num,by congr 1;omega,by omega,bg.out,UM.out⟩
     case measure=>simp[intOf];omega
  ·have vX:j=l.length:=by omega
   obtain⟨hF,hEq⟩:=hR.out;rw[vX,List.drop_length,UQ] at hEq;have HF:=hide hF;have HE2:=hide (Sz.out.trans hEq);clear hR hF hEq vX
   go_wp2
   go_ret
   rw[HE2.out];exact⟨rfl,HF.out⟩
theorem uQ:∀(n:Nat) (l:List St),jq l<=n->DSt l
 |0,l,hn=>Co l fun k t a x y h=>by have:=vT h;have:=Tu (St.mk k t a x y);omega
 |n+1,l,hn=>Co l fun k t a x y h=>by
  have h1:=vT h;rw[Ap] at h1;exact⟨uQ n x (by omega),uQ n y (by omega)⟩
theorem Ro (l:List St):DSt l:=uQ _ l (Nat.le_refl _)
end
section
theorem Rp {base:Nat} {sc x:ai} {n:Nat} {rs:List jQ} {r:jQ} {w:World} (h:w.ownsRow base 79 3 sc.v n (rs.flatMap bZ)) (hs:Sl bZ 3 w x.v [r]) (hb:base<=w.heap.size) (hl:n<=1000000):
 ∃(g cap:Nat) (w':World),(Builtin.append_ #[22,22] 22 #[.slice sc.a sc.n sc.c,.slice x.a x.n x.c]).run Tryz.prog w=.ok (.slice (some ⟨g,0,none⟩) (n+1) cap) w'/\w'.ownsRow base 79 3 (.slice (some ⟨g,0,none⟩) (n+1) cap) (n+1) (rs.flatMap bZ++bZ r)/\Fr (fun k=>sc.v.ownBlock=some k) w w'/\(sc.v.ownBlock=some g\/w.heap.size<=g):=by
 obtain⟨j0,hj0,hy0,hy1,hy2⟩:=info_parts WJ;obtain⟨hn,hm⟩:=ay hs;obtain⟨xa,xn,xc⟩:=x;simp only[List.length_singleton] at hn;subst hn;obtain⟨ao,cap0,he,_,hc⟩:=hs;simp only[Value.slice.injEq] at he;obtain⟨rfl,_,_⟩:=he;obtain⟨b,off,rfl,_,hcell⟩:=hc 0 r rfl;obtain⟨g,cap,w',hr,h2,h3,h4,h5⟩:=run_append_lies (P:=Tryz.prog) w 22 22 base 79 j0 _ 3 40 Tryz.underlying22 hj0 hy0 hy1 hy2 rfl (by decide) sc.v n _ h ⟨b,off,none⟩ 1 xc (bZ r) (by rw[Eg]) (fun j u hj=>by
  have:=hcell j u hj;rw[add_eq];rw[<-this]
  congr 2) (fun u hu=>by
  simp only[bZ,List.mem_cons,List.not_mem_nil,or_false] at hu;rcases hu with rfl|rfl|rfl<;>rfl) (by decide) (by unfold maxLen;omega) (by omega) hb _ rfl
 exact⟨g,cap,w',hr,h2,(Fr.refl _ w).grown h3 (fun k hk=> .inl hk),h4.imp id (fun e=>by omega)⟩
theorem UR (w:World) (x:jQ):Sl bZ 3 (w.alloc (.cells #[.int .i64 x.np,.int .i64 x.nv,.slice x.s.a x.s.n x.s.c] 79)) (ai.v ⟨some ⟨w.heap.size,0,none⟩,1,1⟩) [x]:=by
 refine⟨some ⟨w.heap.size,0,none⟩,1,rfl,by unfold maxLen;simp,fun i y hi=>?_⟩
 cases i with
 |zero=>
  simp at hi
  subst hi;refine⟨_,_,rfl,by simp,fun j u hu=>?_⟩
  have:=World.news_of_block (cs:=#[.int .i64 x.np,.int .i64 x.nv,.slice x.s.a x.s.n x.s.c]) (t:=79) (fr:=(0,0)) (bW w _) j u hu;rw[add_eq] at this;simpa using this
 |succ i=>simp at hi
structure NI (c:Rk) (rb pb:Nat) (T:Nat->Prop) (v:Nat) (cs:List Cd) (ws:List Bs) (w0 w:World):Prop where
 ri:RI c T v ws w
 f:Fr nothing w0 w
 t0:∀k,T k->w0.heap.size<=k
 p1:w.cell? ⟨pb,1,none⟩=some (.slice none 0 0)
 pz:∀j,w.frozen? ⟨pb,j,none⟩=false
 r:∀j,w.cell? ⟨rb,j,none⟩=(#[Value.slice none 0 0,.slice none 0 0])[j]?
 rz:∀j,w.frozen? ⟨rb,j,none⟩=false
 rl:rb<w.heap.size
 tp:¬T pb
 tr:¬T rb
 n:w0.heap.size<=rb/\w0.heap.size<=pb/\rb≠pb
 fo:∀b,c.fs.v.ownBlock=some b->b<w0.heap.size
 rows:∃(sc:ai) (rs:List jQ),w.cell? ⟨pb,0,none⟩=some sc.v/\w.ownsRow w0.heap.size 79 3 sc.v cs.length (rs.flatMap bZ)/\Each (Ou w (fun k=>k<w.heap.size/\¬T k/\k≠pb/\k≠rb/\sc.v.ownBlock≠some k)) rs cs/\∀b,sc.v.ownBlock=some b->¬T b/\b≠pb/\b≠rb
section
variable {c : Rk} {rb pb : Nat} {T T2 : Nat → Prop} {v v2 : Nat} {cs : List Cd} {ws Wm : List Bs} {w0 w w2 : World}
theorem NI.pl (h:NI c rb pb T v cs ws w0 w):pb<w.heap.size:=lt_of_cell h.p1
theorem NI.call (h:NI c rb pb T v cs ws w0 w) (hR:RP c T w v2 Wm T2 w2):NI c rb pb T2 v2 cs Wm w0 w2:=by
 obtain⟨h1,h2,h3⟩:=hR;have nT:∀b,¬T b->b<w.heap.size->¬T2 b:=fun b hb hl e=>(h3 b e).elim hb (fun h=>by omega)
 obtain⟨sc,rs,r1,r2,r3,r4⟩:=h.rows;have hsz:=h2.size;refine⟨h1,h.f.then h2 (fun k hk e=>by have:=h.t0 k e;omega),fun k hk=>?_,(h2.cell (p:=⟨pb,1,none⟩) h.pl h.tp).trans h.p1,fun j=>(h2.frozen (p:=⟨pb,j,none⟩) h.pl h.tp).trans (h.pz j),fun j=>(h2.cell (p:=⟨rb,j,none⟩) h.rl h.tr).trans (h.r j),fun j=>(h2.frozen (p:=⟨rb,j,none⟩) h.rl h.tr).trans (h.rz j),Nat.lt_of_lt_of_le h.rl hsz,nT _ h.tp h.pl,nT _ h.tr h.rl,h.n,h.fo,sc,rs,(h2.cell (p:=⟨pb,0,none⟩) h.pl h.tp).trans r1,aI r2 h2 (fun k hk=>(r4 k hk).1),⟨r3.1,fun i r x e1 e2=>rY _ _ _ _ _ _ _ (r3.2 i r x e1 e2) h2 (fun k hk=>hk.2.1) (fun k hk=>⟨Nat.lt_of_lt_of_le hk.1 hsz,nT _ hk.2.1 hk.1,hk.2.2⟩)⟩,fun b hb=>⟨nT _ (r4 b hb).1 (r2.lt b hb).2,(r4 b hb).2⟩⟩
 rcases h3 k hk with e|e
 ·exact h.t0 k e
 ·exact Nat.le_trans h.f.size e
theorem NI.new (h:NI c rb pb T v cs ws w0 w) (hf:Fr nothing w w2):NI c rb pb T v cs ws w0 w2:=h.call (.J9 h.ri hf)
theorem NI.vars (h:NI c rb pb T v cs ws w0 w) (u:Nat):NI c rb pb T u cs ws w0 (w.setCell ⟨c.mb,2,none⟩ (.int .i64 (u:Nat))):=
 h.call ⟨(h.ri.vars u).1,(h.ri.vars u).2.mono (fun _ _ e=>e▸h.ri.tm),fun _ hk=> .inl hk⟩
theorem NI.push (h:NI c rb pb T v cs ws w0 w) {sc x:ai} {rs:List jQ} {r:jQ} {d:Cd} (r1:w.cell? ⟨pb,0,none⟩=some sc.v) (r2:w.ownsRow w0.heap.size 79 3 sc.v cs.length (rs.flatMap bZ)) (r3:Each (Ou w (fun k=>k<w.heap.size/\¬T k/\k≠pb/\k≠rb/\sc.v.ownBlock≠some k)) rs cs) (r4:∀b,sc.v.ownBlock=some b->¬T b/\b≠pb/\b≠rb) (hs:Sl bZ 3 w x.v [r]) (hd:Ou w (fun k=>k<w.heap.size/\¬T k/\k≠pb/\k≠rb/\sc.v.ownBlock≠some k) r d) (hl:cs.length<=1000):
 ∃(g cap:Nat) (w1:World),(Builtin.append_ #[22,22] 22 #[.slice sc.a sc.n sc.c,.slice x.a x.n x.c]).run Tryz.prog w=.ok (.slice (some ⟨g,0,none⟩) (cs.length+1) cap) w1/\Fr (fun k=>sc.v.ownBlock=some k) w w1/\NI c rb pb T v (cs++ [d]) ws w0 (w1.setCell ⟨pb,0,none⟩ (.slice (some ⟨g,0,none⟩) (cs.length+1) cap)):=by
 obtain⟨g,cap,w1,hrun,hr,hf,hg⟩:=Rp r2 hs h.f.size (by omega);refine⟨g,cap,w1,hrun,hf,?_⟩
 have c1:=(hf.cell (p:=⟨pb,0,none⟩) h.pl (fun e=>(r4 _ e).2.1 rfl)).trans r1;obtain⟨e1,e2,hf2⟩:=kW w1 pb 0 (.slice (some ⟨g,0,none⟩) (cs.length+1) cap) c1;have hF:Fr (fun k=>sc.v.ownBlock=some k\/k=pb) w (w1.setCell ⟨pb,0,none⟩ (.slice (some ⟨g,0,none⟩) (cs.length+1) cap)):=(hf.mono (fun _ _ e=> .inl e)).trans (hf2.mono (fun _ _ e=> .inr e));have hgn:¬T g/\g≠pb/\g≠rb:=by
  rcases hg with e|e
  ·exact r4 g e
  ·have:=h.pl;have:=h.rl;exact⟨fun e2=>by have:=h.ri.tl g e2;omega,by omega,by omega⟩
 have nb:∀k,¬T k/\k≠pb/\k≠rb/\sc.v.ownBlock≠some k->¬(sc.v.ownBlock=some k\/k=pb):=by
  rintro k ⟨_,h1,_,h2⟩ (e|e)
  ·exact h2 e
  ·exact h1 e
 have nr:¬(sc.v.ownBlock=some rb\/rb=pb):=by
  rintro(e|e)
  ·exact(r4 _ e).2.2 rfl
  ·exact h.n.2.2 e
 have hl0:∀k,sc.v.ownBlock=some k->w0.heap.size<=k:=fun k hk=>(r2.lt k hk).1
 have hnew:∀k,k<w.heap.size/\¬T k/\k≠pb/\k≠rb/\sc.v.ownBlock≠some k->(k<(w1.setCell ⟨pb,0,none⟩ (.slice (some ⟨g,0,none⟩) (cs.length+1) cap)).heap.size/\¬T k/\k≠pb/\k≠rb/\(ai.v ⟨some ⟨g,0,none⟩,cs.length+1,cap⟩).ownBlock≠some k):=by
  rintro k ⟨k1,k2,k3,k4,k5⟩;refine⟨Nat.lt_of_lt_of_le k1 hF.size,k2,k3,k4,fun e=>?_⟩
  obtain rfl:g=k:=Option.some.inj e;rcases hg with e|e
  ·exact k5 e
  ·omega
 refine⟨h.ri.fr hF ?_ ?_,h.f.then hF ?_,h.t0,(e2 1 (by decide)).trans ((hf.cell (p:=⟨pb,1,none⟩) h.pl (fun e=>(r4 _ e).2.1 rfl)).trans h.p1),fun j=>?_,fun j=>(hF.cell (p:=⟨rb,j,none⟩) h.rl nr).trans (h.r j),fun j=>(hF.frozen (p:=⟨rb,j,none⟩) h.rl nr).trans (h.rz j),Nat.lt_of_lt_of_le h.rl hF.size,h.tp,h.tr,h.n,h.fo,⟨some ⟨g,0,none⟩,cs.length+1,cap⟩,rs++ [r],e1,?_,⟨by simp[r3.1],?_⟩,?_⟩
 ·rintro k hk (e|e)
  ·exact(r4 k e).1 hk
  ·exact h.tp (e▸hk)
 ·rintro b hb (e|e)
  ·have:=hl0 b e;have:=h.fo b hb;omega
  ·have:=h.n.2.1;have:=h.fo b hb;omega
 ·rintro k hk (e|e)
  ·have:=hl0 k e;omega
  ·have:=h.n.2.1;omega
 ·rw[World.frozen?_setCell,hf.frozen (p:=⟨pb,j,none⟩) h.pl (fun e=>(r4 _ e).2.1 rfl)];exact h.pz j
 ·have:=aI hr hf2 (fun k hk e=>by cases hk;exact hgn.2.1 e);simpa using this
 ·intro i r' x' h1 h2;rcases Nat.lt_trichotomy i cs.length with hi|hi|hi
  ·rw[List.getElem?_append_left (by rw[r3.1];exact hi)] at h1;rw[List.getElem?_append_left hi] at h2;exact rY _ _ _ _ _ _ _ (r3.2 i r' x' h1 h2) hF (fun k hk=>nb k hk.2) hnew
  ·subst hi;rw[List.getElem?_append_right (by rw[r3.1];omega),r3.1] at h1
   rw[List.getElem?_append_right (by omega)] at h2;simp at h1 h2
   subst h1 h2;exact rY _ _ _ _ _ _ _ hd hF (fun k hk=>nb k hk.2) hnew
  ·rw[List.getElem?_eq_none (by simp;omega)] at h2;cases h2
 ·intro b hb;obtain rfl:g=b:=Option.some.inj hb;exact hgn
end
end
end Go.Proofs.YtbcadjgpcfmkfaaGreatDoor
