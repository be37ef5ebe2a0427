/- LAns; LSame; LSameZ; LSameA; LParts. -/
import Derived.Test.YtbcadjgpcfmkfaaGreatDoorPartU21
import Derived.Test.YtbcadjgpcfmkfaaGreatDoorPartU1
import Derived.Test.YtbcadjgpcfmkfaaGreatDoorPartU20
import Derived.Test.YtbcadjgpcfmkfaaGreatDoorPartU26
import Derived.Test.YtbcadjgpcfmkfaaGreatDoorPartU16
set_option maxHeartbeats 0
set_option maxRecDepth 100000
set_option linter.unusedSimpArgs false
namespace Go.Proofs.YtbcadjgpcfmkfaaGreatDoor
open Go Go.RowKit
section
theorem RH (a:Ag) (sc sw sf sh:ai) (n:Int) (w:World) (hA:iK w sc sw sf sh a) {away:Bool} (hR:dx a away=0):
 Calls Tryz.prog 12 #[.agg (gH a sc sw sf sh),.int .i64 n] w fun e w'=>∃aY bG tf th:ai,e=.returned (.agg (gH (Dc a n) aY bG tf th))/\Fr nothing w w'/\iK w' aY bG tf th (Dc a n):=by
 obtain⟨pre,f,R⟩:=qz hR;have hfr:a.fr=pre++ [f]:=R.fr;have hsz:=kY hR;have TC:Dc a n=⟨a.id,a.bu,a.pg,pre++ [bT f ⟨0,n,[]⟩],a.hp,a.fuel,a.cells,a.hops⟩:=by
  unfold Dc bI nD;rw[hfr];simp
 rw[TC];have F1:Fr nothing w (w.alloc (.cells (gH a sc sw sf sh) 31)):=(Fr.refl _ _).alloc _;obtain⟨w1,hw1⟩:∃y,y=w.alloc (.cells (gH a sc sw sf sh) 31):=⟨_,rfl⟩
 have F2:Fr nothing w1 (w1.alloc (.cells oM 31)):=(Fr.refl _ _).alloc _;obtain⟨w2,hw2⟩:∃y,y=w1.alloc (.cells oM 31):=⟨_,rfl⟩
 rw[<-hw1] at F1;rw[<-hw2] at F2;have z1:w1.heap.size=w.heap.size+1:=by rw[hw1];simp
 have z2:w2.heap.size=w.heap.size+2:=by rw[hw2];simp[z1]
 have ma:=af (w:=w) (cs:=gH a sc sw sf sh) (t:=31) (w1:=w2) (S:=nothing) (by rw[<-hw1];exact F2) id;have mr:=af (w:=w1) (cs:=oM) (t:=31) (w1:=w2) (S:=nothing) (by rw[<-hw2];exact Fr.refl _ _) id
 rw[z1] at mr;have bq:Hid (Fr nothing w w2):=F1.trans F2;have TT:=hide mr;have HOWN:=hide (sI a sc sw sf sh w2 (hA.fr' bq.out) hsz);have q0:=ma.1 0;have q1:=ma.1 1;have q2:=ma.1 2;have q3:=ma.1 3;have q4:=ma.1 4;have q5:=ma.1 5;have q6:=ma.1 6;have q7:=ma.1 7;have q8:=ma.1 8;have ql:=ma.2.2;have pQ:=hw1.symm;have e2':=hw2.symm;have RJ:=hide hfr;have HSZ:=hide (And.intro hsz.fr hsz.vs);clear hA hR R hsz TC F1 F2 ma mr hw1 hw2 hfr
 go_enter Tryz.func12,Tryz.ntmps12
 go_wp2_with (first
  |(go_at_call 14;refine HOWN.out.mono ?_;rintro e w3 ⟨aY,bG,qf,qh,rs,B,rfl,hf3,hB3,Af,Dn⟩;have dX:=hide hf3;have NC:=hide Af;have vC:=hide Dn;clear hf3 Af Dn))
 have FM:Fr nothing w3 (w3.alloc (.cells #[.int .i64 a.id,.int .i64 a.bu,.slice aY.a aY.n aY.c,.slice bG.a bG.n bG.c,.slice qf.a qf.n qf.c,.slice qh.a qh.n qh.c,.int .i64 a.fuel,.int .i64 a.cells,.int .i64 a.hops,.string ⟨#[]⟩,.slice none 0 0,.int .i64 0,.int .i64 0] 59)):=(Fr.refl _ _).alloc _;have mM:=af (Fr.refl nothing (w3.alloc (.cells #[.int .i64 a.id,.int .i64 a.bu,.slice aY.a aY.n aY.c,.slice bG.a bG.n bG.c,.slice qf.a qf.n qf.c,.slice qh.a qh.n qh.c,.int .i64 a.fuel,.int .i64 a.cells,.int .i64 a.hops,.string ⟨#[]⟩,.slice none 0 0,.int .i64 0,.int .i64 0] 59))) id;generalize w3.alloc (.cells #[.int .i64 a.id,.int .i64 a.bu,.slice aY.a aY.n aY.c,.slice bG.a bG.n bG.c,.slice qf.a qf.n qf.c,.slice qh.a qh.n qh.c,.int .i64 a.fuel,.int .i64 a.cells,.int .i64 a.hops,.string ⟨#[]⟩,.slice none 0 0,.int .i64 0,.int .i64 0] 59)=w4 at*;have hBm:Bm w3.heap.size ⟨aY,bG,[],aN,0,0⟩ a qf qh w4:=⟨fun j _=>mM.1 j,mM.2.1,mM.2.2⟩;have hmo:Mo B qf qh rs (pre++ [f]) a.hp w4:=by
  rw[<-RJ.out];exact NC.out.fr FM (fun _ _ _=>id)
 obtain⟨rp,r,m,hag,hmt⟩:=hBm.mt hmo RJ.out NC.out.rows (.inr (Nat.le_refl _));have hag':m.ag=⟨a.id,a.bu,a.pg,pre++ [f],a.hp,a.fuel,a.cells,a.hops⟩:=by rw[hag,<-RJ.out]
 obtain⟨mi,mt,mp,ac3,mf,mh,mfu,mce,mho⟩:=m;unfold Mc.ag at hag';simp only[Ag.mk.injEq] at hag';obtain⟨rfl,rfl,rfl,hpf,rfl,rfl,rfl,rfl⟩:=hag';obtain⟨hpr,hff⟩:=List.append_inj' hpf rfl;obtain rfl:mf=f:=by simpa using hff
 subst hpr;have hrl:rp.length<=1000:=by
  have h1:=HSZ.out.1;rw[RJ.out] at h1;have h2:=hmt.lp;simp at h1 h2
  omega
 have hsl:mf.stack.length<=100000:=(HSZ.out.2 mf (by rw[RJ.out];simp)).2;have dF:∀j,Ob qf qh rp r j->B<=j:=fun j hj=>(hmt.ob hj).1
 have WY:=hide dF;have Px:=hide hmt;have Dv:=hide FM;have HML:=hide mM.2.2;clear hBm hmo hag hpf hff FM mM hmt dF q0 q1 q2 q3 q4 q5 q6 q7 q8 ql pQ e2'
 go_wp2_with (first
  |(go_at_call 27;refine(fC (Px.out.new aX.out) hrl hsl ⟨0,n,[]⟩).mono ?_;rintro e w6 ⟨rfl,⟨q',fD,iW⟩,aR⟩;have hz3:=dX.out.size;have hSn:∀j,Ob qf qh rp r j->¬j=w.heap.size+1:=(fun j hj e=>by(have:=WY.out j hj;omega));have Iu:Fr (Ob qf qh rp r) w2 w6:=((((dX.out.trans Dv.out).trans aX.out).mono (fun _ _ e=>e.elim)).trans aR);have dG:∀j,w6.cell? ⟨w.heap.size+1,j,none⟩=oM[j]?:=fun j=>(Iu.cell (p:=⟨w.heap.size+1,j,none⟩) TT.out.2.2 (fun e=>hSn _ e rfl)).trans (TT.out.1 j);have hx6:∀j,w6.frozen? ⟨w.heap.size+1,j,none⟩=false:=fun j=>(Iu.frozen (p:=⟨w.heap.size+1,j,none⟩) TT.out.2.2 (fun e=>hSn _ e rfl)).trans (TT.out.2.1 j);have TU:=Nat.lt_of_lt_of_le TT.out.2.2 Iu.size;have sU:=hide (And.intro dG (And.intro hx6 TU));have H26:=hide Iu;clear dG hx6 TU Iu hSn hz3;have gI:=hide fD;have bg:=hide aR;have c0:=fD.c0;have c1:=fD.c1;have c2:=fD.c2;have c3:=fD.c3;have c4:=fD.c4;have c5:=fD.c5;have c6:=fD.c6;have c7:=fD.c7;have c8:=fD.c8;have cml:=fD.ml;obtain⟨dG,hx6,TU⟩:=sU.out;obtain⟨w9,h9,cA,cB,gT⟩:=Aw (w:=w6) (b:=w.heap.size+1) (f:=fun i=>oM.getD i (.int .i64 0)) (.int .i64 a.id) (.int .i64 a.bu) (.slice aY.a aY.n aY.c) (.slice bG.a bG.n bG.c) (.slice qf.a qf.n qf.c) (.slice qh.a qh.n qh.c) (.int .i64 a.fuel) (.int .i64 a.cells) (.int .i64 a.hops) (fun i hi=>by(rw[dG i];match i,hi with|0,_|1,_|2,_|3,_|4,_|5,_|6,_|7,_|8,_=>rfl));have r0:=dG 0;have r1:=dG 1;have r2:=dG 2;have r3:=dG 3;have r4:=dG 4;have r5:=dG 5;have r6:=dG 6;have r7:=dG 7;have r8:=dG 8;have x0:=hx6 0;have x1:=hx6 1;have x2:=hx6 2;have x3:=hx6 3;have x4:=hx6 4;have x5:=hx6 5;have x6:=hx6 6;have x7:=hx6 7;have x8:=hx6 8;have nM:=hide gT;have jw:=hide (And.intro cA cB);clear fD iW aR dG hx6 cA cB gT)
  |(go_at_call 28;refine(ng n _).mono ?_;rintro e w5 ⟨rfl,cK⟩;have aX:=hide cK;clear cK))
 obtain⟨⟨g0,g1,g2,g3,g4⟩,g5,g6,g7,g8⟩:=jw.out;refine bodyPost_ret (v:=.agg (gH ⟨a.id,a.bu,a.pg,ac3++ [bT mf ⟨0,n,[]⟩],a.hp,a.fuel,a.cells,a.hops⟩ aY bG qf qh)) (by simp[results,Tryz.results12,go_sem,g0,g1,g2,g3,g4,g5,g6,g7,g8]) rfl ?_
 have hz3:=dX.out.size;have hml:=HML.out;have hS1:¬(w3.heap.size=w.heap.size+1):=by omega
 have hok:=gI.out.MG nM.out hS1 (fun k hk e=>by have e':k=w.heap.size+1:=e;omega) (vC.out w9 (by
  exact((Dv.out.trans aX.out).mono (fun _ _ e=>e.elim)).trans ((bg.out.mono (fun k _ e=> .inr (WY.out k e))).trans (nM.out.mono (fun k _ e=> .inl (by
   have e':k=w.heap.size+1:=e;omega))))))
 have hfw:Fr nothing w w9:=(bq.out.then H26.out (fun j hj e=>by have:=WY.out j e;omega)).then nM.out (fun j hj e=>by have e':j=w.heap.size+1:=e;omega);exact⟨aY,bG,qf,qh,rfl,hfw,hok⟩
end
section
theorem zY (l:List Val) (sa sb:ai) (w:World) (hx:Sl aP 3 w sa.v l) (hy:Sl aP 3 w sb.v l):
 Calls Tryz.prog 21 #[.slice sa.a sa.n sa.c,.slice sb.a sb.n sb.c] w fun e w'=>e=.returned (.bool true)/\Fr nothing w w':=by
 obtain⟨n1,m1⟩:=ay hx;obtain⟨n2,m2⟩:=ay hy;obtain⟨aa,an,ac⟩:=sa;obtain⟨ba,bn,bc⟩:=sb;simp only at n1 n2;subst n1 n2;have HX:=hide hx;have HY:=hide hy;have HL:Hid (∀wv,Fr nothing w wv->Fr nothing w wv):=fun _ h=>h
 clear hx hy
 go_enter Tryz.func21,Tryz.ntmps21
 go_wp2
 go_loopw [13,5] (fun i _ wv=>∃k:Nat,k<=l.length/\i=.int .i64 k/\Hid (Fr nothing w wv)) (fun i _ _=>l.length-(intOf i).toNat)
 case atStart=>exact⟨0,Nat.zero_le _,rfl,Fr.refl _ _⟩
 case round=>
  obtain⟨k,hk,rfl,hR⟩:=hrel
  by_cases hlt:k<l.length
  ·have hq:l[k]?=some l[k]:=List.getElem?_eq_getElem hlt;generalize l[k]=x at hq;obtain⟨g1,o1,e1,d1,u0,u1,u2⟩:=kr (s:=⟨aa,l.length,ac⟩) (HX.out.fr hR.out (fun _ _=>id)) hq;obtain⟨g2,o2,e2,d2,v0x,v1x,v2x⟩:=kr (s:=⟨ba,l.length,bc⟩) (HY.out.fr hR.out (fun _ _=>id)) hq;simp only at e1 e2;subst e1 e2;have HR:=hide hR.out;clear hq hR
   go_wp2
   go_quiet (fail)
   go_wp2
   refine⟨⟨k+1,by omega,by go_num,hide (HR.out.drewN _)⟩,by simp[intOf];omega⟩
  ·go_wp2
   go_ret
   exact⟨rfl,hR.out⟩
theorem Gd (l:List aV) (sa sb:ai) (w:World) (hx:Sl jv 6 w sa.v l) (hy:Sl jv 6 w sb.v l):
 Calls Tryz.prog 20 #[.slice sa.a sa.n sa.c,.slice sb.a sb.n sb.c] w fun e w'=>e=.returned (.bool true)/\Fr nothing w w':=by
 obtain⟨n1,m1⟩:=ay hx;obtain⟨n2,m2⟩:=ay hy;obtain⟨aa,an,ac⟩:=sa;obtain⟨ba,bn,bc⟩:=sb;simp only at n1 n2;subst n1 n2;have HX:=hide hx;have HY:=hide hy;have HL:Hid (∀wv,Fr nothing w wv->Fr nothing w wv):=fun _ h=>h
 clear hx hy
 go_enter Tryz.func20,Tryz.ntmps20
 go_wp2
 go_loopw [13,5] (fun i _ wv=>∃k:Nat,k<=l.length/\i=.int .i64 k/\Hid (Fr nothing w wv)) (fun i _ _=>l.length-(intOf i).toNat)
 case atStart=>exact⟨0,Nat.zero_le _,rfl,Fr.refl _ _⟩
 case round=>
  obtain⟨k,hk,rfl,hR⟩:=hrel
  by_cases hlt:k<l.length
  ·have hq:l[k]?=some l[k]:=List.getElem?_eq_getElem hlt;generalize l[k]=x at hq;obtain⟨g1,o1,e1,d1,u0,u1,u2,u3,u4,u5⟩:=oq (s:=⟨aa,l.length,ac⟩) (HX.out.fr hR.out (fun _ _=>id)) hq;obtain⟨g2,o2,e2,d2,v0x,v1x,v2x,v3x,v4x,v5x⟩:=oq (s:=⟨ba,l.length,bc⟩) (HY.out.fr hR.out (fun _ _=>id)) hq;simp only at e1 e2;subst e1 e2;have HR:=hide hR.out;clear hq hR
   go_wp2
   go_quiet (fail)
   go_wp2
   refine⟨⟨k+1,by omega,by go_num,hide (HR.out.drewN _)⟩,by simp[intOf];omega⟩
  ·go_wp2
   go_ret
   exact⟨rfl,hR.out⟩
end
section
theorem Nj (P:Pz) (sa swa sb swb:ai) (w:World) (hA:iq w sa swa P) (hB:iq w sb swb P):
 Calls Tryz.prog 19 #[.agg #[.slice sa.a sa.n sa.c,.slice swa.a swa.n swa.c],.agg #[.slice sb.a sb.n sb.c,.slice swb.a swb.n swb.c]] w fun e w'=>e=.returned (.bool true)/\Fr nothing w w':=by
 obtain⟨⟨ra,a1,a2⟩,a3⟩:=hA;obtain⟨⟨rb,b1,b2⟩,b3⟩:=hB;obtain⟨n1,m1⟩:=ay a1;obtain⟨n2,m2⟩:=ay b1;obtain⟨n3,m3⟩:=ay a3;obtain⟨n4,m4⟩:=ay b3;obtain⟨Zy,san,Zz⟩:=sa;obtain⟨sba,sbn,sbc⟩:=sb;obtain⟨ZA,wan,YL⟩:=swa;obtain⟨wba,wbn,ZB⟩:=swb;simp only at n1 n2 n3 n4;rw[a2.1] at n1 m1;rw[b2.1] at n2 m2;subst n1 n2 n3 n4;have s1:(w.alloc (.cells #[.slice Zy P.cs.length Zz,.slice ZA P.ws.length YL] 25)).heap.size=w.heap.size+1:=by simp
 obtain⟨w2,hw2⟩:∃w2,w2=(w.alloc (.cells #[.slice Zy P.cs.length Zz,.slice ZA P.ws.length YL] 25)).alloc (.cells #[.slice sba P.cs.length sbc,.slice wba P.ws.length ZB] 25):=⟨_,rfl⟩
 have hF2:Fr nothing w w2:=by rw[hw2];exact((Fr.refl _ _).alloc _).alloc _
 have ca:=af ((Fr.refl nothing (w.alloc (.cells #[.slice Zy P.cs.length Zz,.slice ZA P.ws.length YL] 25))).alloc (.cells #[.slice sba P.cs.length sbc,.slice wba P.ws.length ZB] 25)) id;have cb:=af (Fr.refl nothing ((w.alloc (.cells #[.slice Zy P.cs.length Zz,.slice ZA P.ws.length YL] 25)).alloc (.cells #[.slice sba P.cs.length sbc,.slice wba P.ws.length ZB] 25))) id;rw[s1] at cb;rw[<-hw2] at ca cb;have hl1:P.cs.length<=9223372036854775807:=by omega
 have hl2:P.ws.length<=9223372036854775807:=by omega
 obtain⟨A1,hA1⟩:∃x,x=w.heap.size:=⟨_,rfl⟩
 obtain⟨B1,hB1⟩:∃x,x=w.heap.size+1:=⟨_,rfl⟩
 rw[<-hA1] at ca;rw[<-hB1] at cb;have c0:=ca.1 0;have c1:=ca.1 1;have cl:=ca.2.2;have d0:=cb.1 0;have d1:=cb.1 1;have dl:=cb.2.2;have HA:=hide (And.intro a1 (And.intro a2 a3));have HB:=hide (And.intro b1 (And.intro b2 b3));have bq:=hide hF2;have jY:Hid (∀w',Fr nothing w2 w'->w'.cell? ⟨A1,0,none⟩=some (.slice Zy P.cs.length Zz)/\w'.cell? ⟨A1,1,none⟩=some (.slice ZA P.ws.length YL)/\w'.cell? ⟨B1,0,none⟩=some (.slice sba P.cs.length sbc)/\w'.cell? ⟨B1,1,none⟩=some (.slice wba P.ws.length ZB)/\A1<w'.heap.size/\B1<w'.heap.size):=fun w' hf=>⟨(hf.cell (p:=⟨A1,0,none⟩) cl id).trans c0,(hf.cell (p:=⟨A1,1,none⟩) cl id).trans c1,(hf.cell (p:=⟨B1,0,none⟩) dl id).trans d0,(hf.cell (p:=⟨B1,1,none⟩) dl id).trans d1,Nat.lt_of_lt_of_le cl hf.size,Nat.lt_of_lt_of_le dl hf.size⟩
 clear ca cb a1 a2 a3 b1 b2 b3 s1 hF2 m1 m2 m3 m4
 go_enter Tryz.func19,Tryz.ntmps19
 go_wp2
 rw[<-hw2,<-hB1,<-hA1];clear hw2 hA1 hB1 c0 c1 d0 d1 cl dl
 go_loopw [29,5] (fun i _ wv=>∃(j:Nat),j<=P.ws.length/\i=.int .i64 j/\Hid (Fr nothing w2 wv)) (fun i _ _=>P.ws.length-(intOf i).toNat)
 case atStart=>exact⟨0,Nat.zero_le _,rfl,Fr.refl _ _⟩
 case round=>
  obtain⟨j,hj,rfl,hR⟩:=hrel
  by_cases hjl:j<P.ws.length
  ·have hx:P.ws[j]?=some P.ws[j]:=List.getElem?_eq_getElem hjl;generalize P.ws[j]=x at hx;obtain⟨ga,oa,e1,MK,ua⟩:=nZ (s:=⟨ZA,P.ws.length,YL⟩) HA.out.2.2 hx;obtain⟨gb,ob,e2,Qu,ub⟩:=nZ (s:=⟨wba,P.ws.length,ZB⟩) HB.out.2.2 hx;simp only at e1 e2;subst e1 e2;have hF:=(bq.out.trans hR.out).drew;have TY:=Nat.lt_of_lt_of_le MK hF.size;have Zq:=Nat.lt_of_lt_of_le Qu hF.size;rw[<-hF.cell (p:=⟨ga,_,none⟩) MK id] at ua;rw[<-hF.cell (p:=⟨gb,_,none⟩) Qu id] at ub;obtain⟨c0,c1,d0,d1,cl,dl⟩:=jY.out _ hR.out.drew;have HN:Hid (Fr nothing w2 wr.drew):=hR.out.drew;clear hF hx hR
   go_wp2_with fail
   refine wp_region_held_drew (S:=fun w'=>w'.cell? ⟨A1,1,none⟩=some (.slice (some ⟨ga,oa,none⟩) P.ws.length YL)/\w'.cell? ⟨B1,1,none⟩=some (.slice (some ⟨gb,ob,none⟩) P.ws.length ZB)/\w'.cell? ⟨ga,oa+j,none⟩=some (.string (bs x))/\w'.cell? ⟨gb,ob+j,none⟩=some (.string (bs x))) (by kernel_rfl) ⟨c1,d1,ua,ub⟩ (fun hHeld=>?_)
   refine tk 0 ?_
   refine tk 1 ?_
   refine tk 2 ?_
   refine tk 3 ?_
   refine tk 4 ?_
   refine tk 5 ?_
   refine tk 6 ?_
   refine tk 7 ?_
   refine tk 8 ?_
   refine tk 9 ?_
   refine tk 10 ?_
   refine wpAnyH_done (by kernel_rfl) ?_ _
   clear hHeld
   go_wp2_with fail
   go_roundw
   case rel=>exact⟨j+1,by omega,by go_num,HN.out⟩
   case measure=>simp[intOf];omega
  ·obtain⟨c0,c1,d0,d1,cl,dl⟩:=jY.out _ hR.out;obtain⟨w3,hw3⟩:∃x,x=wr:=⟨_,rfl⟩
   subst hw3
   go_wp2_with fail
   clear c0 c1 d0 d1 cl dl
   go_loopw [47,6,7,8,9] (fun i _ _ _ _ wv=>∃(k:Nat),k<=P.cs.length/\i=.int .i64 k/\Hid (Fr nothing w2 wv)) (fun i _ _ _ _ _=>P.cs.length-(intOf i).toNat)
   case atStart=>exact⟨0,Nat.zero_le _,rfl,hR⟩
   case round=>
    obtain⟨k,hk,rfl,hRk⟩:=hrel
    by_cases hkl:k<P.cs.length
    ·have hx:P.cs[k]?=some P.cs[k]:=List.getElem?_eq_getElem hkl;have hra:ra[k]?=some (ra[k]'(by rw[HA.out.2.1.1];omega)):=List.getElem?_eq_getElem _
     have hrb:rb[k]?=some (rb[k]'(by rw[HB.out.2.1.1];omega)):=List.getElem?_eq_getElem _;generalize P.cs[k]=x at hx;generalize ra[k]'(by rw[HA.out.2.1.1];omega)=xa at hra
     generalize rb[k]'(by rw[HB.out.2.1.1];omega)=xb at hrb;obtain⟨p1,p2,p3⟩:=HA.out.2.1.2 k xa x hra hx;obtain⟨q1,q2,q3⟩:=HB.out.2.1.2 k xb x hrb hx;obtain⟨ga,oa,e1,MK,ua,ua1,ua2⟩:=fB (s:=⟨Zy,P.cs.length,Zz⟩) HA.out.1 hra;obtain⟨gb,ob,e2,Qu,ub,Su,Sv⟩:=fB (s:=⟨sba,P.cs.length,sbc⟩) HB.out.1 hrb;simp only at e1 e2;subst e1 e2;obtain⟨n1,m1⟩:=ay p3;obtain⟨n2,m2⟩:=ay q3;obtain⟨xa1,xa2,⟨xaa,xan,xac⟩⟩:=xa;obtain⟨xb1,xb2,⟨xba,xbn,ZC⟩⟩:=xb;simp only at p1 p2 q1 q2 n1 n2 ua ua1 ua2 ub Su Sv;subst p1 p2 q1 q2 n1 n2;have hF:=bq.out.trans hRk.out;have TY:=Nat.lt_of_lt_of_le MK hF.size;have Zq:=Nat.lt_of_lt_of_le Qu hF.size;rw[<-hF.cell (p:=⟨ga,_,none⟩) MK id] at ua ua1 ua2;rw[<-hF.cell (p:=⟨gb,_,none⟩) Qu id] at ub Su Sv;obtain⟨c0,c1,d0,d1,cl,dl⟩:=jY.out _ hRk.out;have t1:(wr.alloc (.cells #[.int .i64 x.np,.int .i64 x.nv,.slice xaa x.ins.length xac] 79)).heap.size=wr.heap.size+1:=by simp
     have hA4:=af ((Fr.refl nothing (wr.alloc (.cells #[.int .i64 x.np,.int .i64 x.nv,.slice xaa x.ins.length xac] 79))).alloc (.cells #[.int .i64 x.np,.int .i64 x.nv,.slice xba x.ins.length ZC] 79)) id;have hB4:=af (Fr.refl nothing ((wr.alloc (.cells #[.int .i64 x.np,.int .i64 x.nv,.slice xaa x.ins.length xac] 79)).alloc (.cells #[.int .i64 x.np,.int .i64 x.nv,.slice xba x.ins.length ZC] 79))) id;rw[t1] at hB4;have jW:Fr nothing wr ((wr.alloc (.cells #[.int .i64 x.np,.int .i64 x.nv,.slice xaa x.ins.length xac] 79)).alloc (.cells #[.int .i64 x.np,.int .i64 x.nv,.slice xba x.ins.length ZC] 79)):=((Fr.refl _ _).alloc _).alloc _;have hml:x.ins.length<=9223372036854775807:=by omega
     have HP:=hide (And.intro p3 q3);have HA4:=hide hA4;have YH:=hide hB4;have gX:=hide jW;clear hx hra hrb p3 q3 hF hA4 hB4 jW m1 m2
     go_wp2_with fail
     generalize(wr.alloc (.cells #[.int .i64 x.np,.int .i64 x.nv,.slice xaa x.ins.length xac] 79)).alloc (.cells #[.int .i64 x.np,.int .i64 x.nv,.slice xba x.ins.length ZC] 79)=w4 at*;obtain⟨A7,hA7⟩:∃x,x=wr.heap.size:=⟨_,rfl⟩
     obtain⟨B8,Zj⟩:∃x,x=wr.heap.size+1:=⟨_,rfl⟩
     rw[<-Zj] at YH;rw[<-Zj];rw[<-hA7] at HA4;rw[<-hA7];have HR4:Hid (Fr nothing w2 w4):=hRk.out.trans gX.out;clear hA7 Zj c0 c1 d0 d1 cl dl ua ua1 ua2 ub Su Sv t1 TY Zq
     go_loopw [81,9] (fun i _ wv=>∃(j2:Nat),j2<=x.ins.length/\i=.int .i64 j2/\Hid (Fr nothing w4 wv)) (fun i _ _=>x.ins.length-(intOf i).toNat)
     case atStart=>exact⟨0,Nat.zero_le _,rfl,Fr.refl _ _⟩
     case round=>
      obtain⟨j2,hj2,rfl,hR2⟩:=hrel
      by_cases M6:j2<x.ins.length
      ·have hx:x.ins[j2]?=some x.ins[j2]:=List.getElem?_eq_getElem M6;generalize x.ins[j2]=y at hx;obtain⟨ia,ja,e1,dia,v0,v1,v2⟩:=iB (s:=⟨xaa,x.ins.length,xac⟩) HP.out.1 hx;obtain⟨ib,jb,e2,dib,z0,z1,z2⟩:=iB (s:=⟨xba,x.ins.length,ZC⟩) HP.out.2 hx;simp only at e1 e2;subst e1 e2;have hF:=((bq.out.trans HR4.out).trans hR2.out).drew;have TY:=Nat.lt_of_lt_of_le dia hF.size;have Zq:=Nat.lt_of_lt_of_le dib hF.size;rw[<-hF.cell (p:=⟨ia,_,none⟩) dia id] at v0 v1 v2;rw[<-hF.cell (p:=⟨ib,_,none⟩) dib id] at z0 z1 z2;have a2:=(hR2.out.drew.cell (p:=⟨A7,2,none⟩) HA4.out.2.2 id).trans (HA4.out.1 2);have b2:=(hR2.out.drew.cell (p:=⟨B8,2,none⟩) YH.out.2.2 id).trans (YH.out.1 2);have al:=Nat.lt_of_lt_of_le HA4.out.2.2 hR2.out.size;have bl:=Nat.lt_of_lt_of_le YH.out.2.2 hR2.out.size;have HN:Hid (Fr nothing w4 wr.drew):=hR2.out.drew;clear hF hx hR2
       go_wp2_with fail
       refine wp_region_held_drew (S:=fun w'=>w'.cell? ⟨A7,2,none⟩=some (.slice (some ⟨ia,ja,none⟩) x.ins.length xac)/\w'.cell? ⟨B8,2,none⟩=some (.slice (some ⟨ib,jb,none⟩) x.ins.length ZC)/\w'.cell? ⟨ia,ja+j2*3,none⟩=some (.int .i64 y.op)/\w'.cell? ⟨ia,ja+j2*3+1,none⟩=some (.int .i64 y.a)/\w'.cell? ⟨ia,ja+j2*3+2,none⟩=some (.int .i64 y.b)/\w'.cell? ⟨ib,jb+j2*3,none⟩=some (.int .i64 y.op)/\w'.cell? ⟨ib,jb+j2*3+1,none⟩=some (.int .i64 y.a)/\w'.cell? ⟨ib,jb+j2*3+2,none⟩=some (.int .i64 y.b)) (by kernel_rfl) ⟨a2,b2,v0,v1,v2,z0,z1,z2⟩ (fun hHeld=>?_)
       refine tk 0 ?_
       refine tk 1 ?_
       refine tk 2 ?_
       refine tk 3 ?_
       refine tk 4 ?_
       refine tk 5 ?_
       refine tk 6 ?_
       refine tk 7 ?_
       refine tk 8 ?_
       refine tk 9 ?_
       refine tk 10 ?_
       refine wpAnyH_done (by kernel_rfl) ?_ _
       clear hHeld
       go_wp2_with fail
       go_roundw
       case rel=>exact⟨j2+1,by omega,by go_num,HN.out⟩
       case measure=>simp[intOf];omega
      ·have HN:Hid (Fr nothing w2 wr):=HR4.out.trans hR2.out
       go_wp2_with fail
       go_roundw
       case rel=>exact⟨k+1,by omega,by go_num,HN.out⟩
       case measure=>simp[intOf];omega
    ·have HN:Hid (Fr nothing w wr):=bq.out.trans hRk.out
     go_wp2_with fail
     go_ret
     exact⟨rfl,HN.out⟩
end
section
theorem zZ (a:Ag) (sc sw sf sh tc tw tf th:ai) (w:World) (hA:iK w sc sw sf sh a) (hB:iK w tc tw tf th a):
 Calls Tryz.prog 9 #[.agg (gH a sc sw sf sh),.agg (gH a tc tw tf th)] w fun e w'=>e=.returned (.bool true)/\Fr nothing w w':=by
 have F1:Fr nothing w (w.alloc (.cells (gH a sc sw sf sh) 31)):=(Fr.refl _ _).alloc _;obtain⟨w1,hw1⟩:∃y,y=w.alloc (.cells (gH a sc sw sf sh) 31):=⟨_,rfl⟩
 have F2:Fr nothing w1 (w1.alloc (.cells (gH a tc tw tf th) 31)):=(Fr.refl _ _).alloc _;obtain⟨w2,hw2⟩:∃y,y=w1.alloc (.cells (gH a tc tw tf th) 31):=⟨_,rfl⟩
 rw[<-hw1] at F1;rw[<-hw2] at F2;have z1:w1.heap.size=w.heap.size+1:=by rw[hw1];simp
 have ma:=af (w:=w) (cs:=gH a sc sw sf sh) (t:=31) (w1:=w2) (S:=nothing) (by rw[<-hw1];exact F2) id;have ms:=af (w:=w1) (cs:=gH a tc tw tf th) (t:=31) (w1:=w2) (S:=nothing) (by rw[<-hw2];exact Fr.refl _ _) id
 rw[z1] at ms;have bq:Hid (Fr nothing w w2):=F1.trans F2;have jY:Hid (∀w',Fr nothing w2 w'->((w'.cell? ⟨w.heap.size,0,none⟩=some (.int .i64 a.id)/\w'.cell? ⟨w.heap.size,1,none⟩=some (.int .i64 a.bu)/\w'.cell? ⟨w.heap.size,2,none⟩=some (.slice sc.a sc.n sc.c)/\w'.cell? ⟨w.heap.size,3,none⟩=some (.slice sw.a sw.n sw.c)/\w'.cell? ⟨w.heap.size,4,none⟩=some (.slice sf.a sf.n sf.c))/\(w'.cell? ⟨w.heap.size,5,none⟩=some (.slice sh.a sh.n sh.c)/\w'.cell? ⟨w.heap.size,6,none⟩=some (.int .i64 a.fuel)/\w'.cell? ⟨w.heap.size,7,none⟩=some (.int .i64 a.cells)/\w'.cell? ⟨w.heap.size,8,none⟩=some (.int .i64 a.hops)))/\((w'.cell? ⟨w.heap.size+1,0,none⟩=some (.int .i64 a.id)/\w'.cell? ⟨w.heap.size+1,1,none⟩=some (.int .i64 a.bu)/\w'.cell? ⟨w.heap.size+1,2,none⟩=some (.slice tc.a tc.n tc.c)/\w'.cell? ⟨w.heap.size+1,3,none⟩=some (.slice tw.a tw.n tw.c)/\w'.cell? ⟨w.heap.size+1,4,none⟩=some (.slice tf.a tf.n tf.c))/\(w'.cell? ⟨w.heap.size+1,5,none⟩=some (.slice th.a th.n th.c)/\w'.cell? ⟨w.heap.size+1,6,none⟩=some (.int .i64 a.fuel)/\w'.cell? ⟨w.heap.size+1,7,none⟩=some (.int .i64 a.cells)/\w'.cell? ⟨w.heap.size+1,8,none⟩=some (.int .i64 a.hops)))/\w.heap.size<w'.heap.size/\w.heap.size+1<w'.heap.size):=fun w' hf=>by
  have hc:∀j,w'.cell? ⟨w.heap.size,j,none⟩=_:=fun j=>(hf.cell (p:=⟨w.heap.size,j,none⟩) ma.2.2 id).trans (ma.1 j)
  have hd:∀j,w'.cell? ⟨w.heap.size+1,j,none⟩=_:=fun j=>(hf.cell (p:=⟨w.heap.size+1,j,none⟩) ms.2.2 id).trans (ms.1 j)
  exact⟨⟨⟨hc 0,hc 1,hc 2,hc 3,hc 4⟩,hc 5,hc 6,hc 7,hc 8⟩,⟨⟨hd 0,hd 1,hd 2,hd 3,hd 4⟩,hd 5,hd 6,hd 7,hd 8⟩,Nat.lt_of_lt_of_le ma.2.2 hf.size,Nat.lt_of_lt_of_le ms.2.2 hf.size⟩
 have HA2:=hide (hA.fr' bq.out);have HB2:=hide (hB.fr' bq.out);obtain⟨ra,hra,kM⟩:=(hA.fr' bq.out).fr;obtain⟨rb,hrb,YB⟩:=(hB.fr' bq.out).fr;obtain⟨nf1,mf1⟩:=ay hra;obtain⟨nf2,mf2⟩:=ay hrb;rw[kM.1] at nf1 mf1;rw[YB.1] at nf2 mf2;obtain⟨cu,sfn,T9⟩:=sf;obtain⟨tfa,tfn,tfc⟩:=tf;simp only at nf1 nf2;subst nf1 nf2;have XY:=hide (And.intro hra kM);have bV:=hide (And.intro hrb YB);have pQ:=hw1.symm;have e2':=hw2.symm;obtain⟨⟨⟨q0,q1,q2,q3,q4⟩,q5,q6,q7,q8⟩,⟨⟨p0,p1,p2,p3,p4⟩,p5,p6,p7,p8⟩,pl,ql⟩:=jY.out w2 (Fr.refl _ _);clear hA hB F1 F2 ma ms hw1 hw2 hra kM hrb YB mf2
 go_enter Tryz.func9,Tryz.ntmps9
 go_wp2_with (first
  |(go_at_call 20;refine(Gd a.hp sh th _ (HA2.out.fr' dX.out).hp (HB2.out.fr' dX.out).hp).mono ?_;rintro e w4 ⟨rfl,gm⟩;have gX:=hide (dX.out.trans gm);obtain⟨⟨⟨s0,s1,s2,s3,s4⟩,s5,s6,s7,s8⟩,⟨⟨t0,t1,t2,t3,t4⟩,t5,t6,t7,t8⟩,sl',tl⟩:=jY.out w4 gX.out;clear gm)
  |(go_at_call 19;refine(Nj a.pg sc sw tc tw _ HA2.out.pg HB2.out.pg).mono ?_;rintro e w3 ⟨rfl,hf3⟩;have dX:=hide hf3;obtain⟨⟨⟨x0,x1,x2,x3,x4⟩,x5,x6,x7,x8⟩,⟨⟨y0,y1,y2,y3,y4⟩,y5,y6,y7,y8⟩,xl,yl⟩:=jY.out w3 hf3;clear hf3))
 clear q0 q1 q2 q3 q4 q5 q6 q7 q8 p0 p1 p2 p3 p4 p5 p6 p7 p8 pl ql x0 x1 x2 x3 x4 x5 x6 x7 x8 y0 y1 y2 y3 y4 y5 y6 y7 y8 xl yl s0 s1 s2 s3 s4 s5 s6 s7 s8 t0 t1 t2 t3 t4 t5 t6 t7 t8 sl' tl pQ e2'
 go_loopw [55,5,6,7] (fun i _ _ _ wv=>∃k:Nat,k<=a.fr.length/\i=.int .i64 k/\Hid (Fr nothing w2 wv)) (fun i _ _ _ _=>a.fr.length-(intOf i).toNat)
 case atStart=>exact⟨0,Nat.zero_le _,rfl,gX.out⟩
 case round=>
  obtain⟨k,hk,rfl,HR⟩:=hrel
  by_cases hlt:k<a.fr.length
  ·have hx:a.fr[k]?=some a.fr[k]:=List.getElem?_eq_getElem hlt;have hra:ra[k]?=some (ra[k]'(by rw[XY.out.2.1];omega)):=List.getElem?_eq_getElem _
   have hrb:rb[k]?=some (rb[k]'(by rw[bV.out.2.1];omega)):=List.getElem?_eq_getElem _;generalize a.fr[k]=x at hx;generalize ra[k]'(by rw[XY.out.2.1];omega)=xa at hra
   generalize rb[k]'(by rw[bV.out.2.1];omega)=xb at hrb;have oa:=XY.out.2.2 k xa x hra hx;have ob:=bV.out.2.2 k xb x hrb hx;obtain⟨g1,o1,e1,d1,u0,u1,u2,u3⟩:=jJ (s:=⟨cu,a.fr.length,T9⟩) (XY.out.1.fr HR.out (fun _ _=>id)) hra;obtain⟨g2,o2,e2,d2,v0x,v1x,v2x,v3x⟩:=jJ (s:=⟨tfa,a.fr.length,tfc⟩) (bV.out.1.fr HR.out (fun _ _=>id)) hrb;simp only at e1 e2;subst e1 e2;obtain⟨fa,ta,va,qa⟩:=xa;obtain⟨fb,tb,vb,qb⟩:=xb;obtain⟨oa1,oa2,ZL,oa4⟩:=oa;obtain⟨ob1,ob2,YU,ob4⟩:=ob;simp only at oa1 oa2 ZL oa4 ob1 ob2 YU ob4 u0 u1 u2 u3 v0x v1x v2x v3x;subst oa1 oa2 ob1 ob2;have HVV:=hide (And.intro ZL YU);have HQQ:=hide (And.intro oa4 ob4);have FA:Fr nothing wr (wr.alloc (.cells #[.int .i64 x.fn,.int .i64 x.at_,.slice va.a va.n va.c,.slice qa.a qa.n qa.c] 51)):=(Fr.refl _ _).alloc _;obtain⟨w5,xU⟩:∃y,y=wr.alloc (.cells #[.int .i64 x.fn,.int .i64 x.at_,.slice va.a va.n va.c,.slice qa.a qa.n qa.c] 51):=⟨_,rfl⟩
   have FB:Fr nothing w5 (w5.alloc (.cells #[.int .i64 x.fn,.int .i64 x.at_,.slice vb.a vb.n vb.c,.slice qb.a qb.n qb.c] 51)):=(Fr.refl _ _).alloc _;obtain⟨w6,nK⟩:∃y,y=w5.alloc (.cells #[.int .i64 x.fn,.int .i64 x.at_,.slice vb.a vb.n vb.c,.slice qb.a qb.n qb.c] 51):=⟨_,rfl⟩
   rw[<-xU] at FA;rw[<-nK] at FB;have z5:w5.heap.size=wr.heap.size+1:=by rw[xU];simp
   have na:=af (w:=wr) (cs:=#[.int .i64 x.fn,.int .i64 x.at_,.slice va.a va.n va.c,.slice qa.a qa.n qa.c]) (t:=51) (w1:=w6) (S:=nothing) (by rw[<-xU];exact FB) id;have nb:=af (w:=w5) (cs:=#[.int .i64 x.fn,.int .i64 x.at_,.slice vb.a vb.n vb.c,.slice qb.a qb.n qb.c]) (t:=51) (w1:=w6) (S:=nothing) (by rw[<-nK];exact Fr.refl _ _) id
   rw[z5] at nb;have bg:Hid (Fr nothing w2 w6):=(HR.out.trans FA).trans FB;have HBX:Hid (∀w',Fr nothing w6 w'->(w'.cell? ⟨wr.heap.size,0,none⟩=some (.int .i64 x.fn)/\w'.cell? ⟨wr.heap.size,1,none⟩=some (.int .i64 x.at_)/\w'.cell? ⟨wr.heap.size,2,none⟩=some (.slice va.a va.n va.c)/\w'.cell? ⟨wr.heap.size,3,none⟩=some (.slice qa.a qa.n qa.c))/\(w'.cell? ⟨wr.heap.size+1,0,none⟩=some (.int .i64 x.fn)/\w'.cell? ⟨wr.heap.size+1,1,none⟩=some (.int .i64 x.at_)/\w'.cell? ⟨wr.heap.size+1,2,none⟩=some (.slice vb.a vb.n vb.c)/\w'.cell? ⟨wr.heap.size+1,3,none⟩=some (.slice qb.a qb.n qb.c))):=fun w' hf=>by
    have hc:∀j,w'.cell? ⟨wr.heap.size,j,none⟩=_:=fun j=>(hf.cell (p:=⟨wr.heap.size,j,none⟩) na.2.2 id).trans (na.1 j)
    have hd:∀j,w'.cell? ⟨wr.heap.size+1,j,none⟩=_:=fun j=>(hf.cell (p:=⟨wr.heap.size+1,j,none⟩) nb.2.2 id).trans (nb.1 j)
    exact⟨⟨hc 0,hc 1,hc 2,hc 3⟩,hd 0,hd 1,hd 2,hd 3⟩
   obtain⟨⟨⟨s0,s1,s2,s3,s4⟩,s5,s6,s7,s8⟩,⟨⟨t0,t1,t2,t3,t4⟩,t5,t6,t7,t8⟩,sl',tl⟩:=jY.out wr HR.out;obtain⟨⟨i0,i1,i2,i3⟩,j0,j1,j2,j3⟩:=HBX.out w6 (Fr.refl _ _);obtain⟨-,⟨⟨-,-,-,-,n4⟩,-⟩,-,nl⟩:=jY.out w5 (HR.out.trans FA);have v0y:=(FA.cell (p:=⟨g2,_,none⟩) d2 id).trans v0x;have v1y:=(FA.cell (p:=⟨g2,_,none⟩) d2 id).trans v1x;have v2y:=(FA.cell (p:=⟨g2,_,none⟩) d2 id).trans v2x;have v3y:=(FA.cell (p:=⟨g2,_,none⟩) d2 id).trans v3x;have d2y:=Nat.lt_of_lt_of_le d2 FA.size;have e5':=xU.symm;have e6':=nK.symm;clear hx hra hrb ZL oa4 YU ob4 FA FB na nb xU nK
   go_wp2_with (first
    |(go_at_call 21;refine(zY x.stack qa qb _ (HQQ.out.1.fr dH.out (fun _ _=>id)) (HQQ.out.2.fr dH.out (fun _ _=>id))).mono ?_;rintro e w8 ⟨rfl,oN⟩;have lK:=hide (dH.out.trans oN);clear oN)
    |(go_at_call 21;refine(zY x.vars va vb _ (HVV.out.1.fr bg.out (fun _ _=>id)) (HVV.out.2.fr bg.out (fun _ _=>id))).mono ?_;rintro e w7 ⟨rfl,dZ⟩;have dH:=hide (bg.out.trans dZ);obtain⟨⟨k0,k1,k2,k3⟩,l0,l1,l2,l3⟩:=HBX.out w7 dZ;clear dZ))
   refine⟨⟨k+1,by omega,by go_num,lK.out⟩,by simp[intOf];omega⟩
  ·obtain⟨⟨⟨s0,s1,s2,s3,s4⟩,s5,s6,s7,s8⟩,⟨⟨t0,t1,t2,t3,t4⟩,t5,t6,t7,t8⟩,sl',tl⟩:=jY.out wr HR.out
   go_wp2
   go_ret
   exact⟨rfl,bq.out.trans HR.out⟩
end
section
theorem RL (b:Ag) (ev:Ev) (sc sw qf qh:ai) (w:World):∃w6 w7,w.alloc (.cells #[.int .i64 b.id,.int .i64 b.bu,.slice sc.a sc.n sc.c,.slice sw.a sw.n sw.c,.slice qf.a qf.n qf.c,.slice qh.a qh.n qh.c,.int .i64 b.fuel,.int .i64 b.cells,.int .i64 b.hops] 31)=w6/\w6.alloc (.cells #[.int .i64 ev.k,.string (bs ev.t),.int .i64 ev.e] 39)=w7/\w6.heap.size=w.heap.size+1/\Fr nothing w w7/\∀w',Fr nothing w7 w'->((w'.cell? ⟨w.heap.size,0,none⟩=some (.int .i64 b.id)/\w'.cell? ⟨w.heap.size,1,none⟩=some (.int .i64 b.bu)/\w'.cell? ⟨w.heap.size,2,none⟩=some (.slice sc.a sc.n sc.c)/\w'.cell? ⟨w.heap.size,3,none⟩=some (.slice sw.a sw.n sw.c)/\w'.cell? ⟨w.heap.size,4,none⟩=some (.slice qf.a qf.n qf.c))/\(w'.cell? ⟨w.heap.size,5,none⟩=some (.slice qh.a qh.n qh.c)/\w'.cell? ⟨w.heap.size,6,none⟩=some (.int .i64 b.fuel)/\w'.cell? ⟨w.heap.size,7,none⟩=some (.int .i64 b.cells)/\w'.cell? ⟨w.heap.size,8,none⟩=some (.int .i64 b.hops)))/\(w'.cell? ⟨w.heap.size+1,0,none⟩=some (.int .i64 ev.k)/\w'.cell? ⟨w.heap.size+1,1,none⟩=some (.string (bs ev.t))/\w'.cell? ⟨w.heap.size+1,2,none⟩=some (.int .i64 ev.e))/\w.heap.size<w'.heap.size/\w.heap.size+1<w'.heap.size:=by
 refine⟨_,_,rfl,rfl,by simp,((Fr.refl _ _).alloc _).alloc _,fun w' hf=>?_⟩
 have mx:=af (w:=w) (cs:=#[.int .i64 b.id,.int .i64 b.bu,.slice sc.a sc.n sc.c,.slice sw.a sw.n sw.c,.slice qf.a qf.n qf.c,.slice qh.a qh.n qh.c,.int .i64 b.fuel,.int .i64 b.cells,.int .i64 b.hops]) (t:=31) (w1:=(w.alloc (.cells #[.int .i64 b.id,.int .i64 b.bu,.slice sc.a sc.n sc.c,.slice sw.a sw.n sw.c,.slice qf.a qf.n qf.c,.slice qh.a qh.n qh.c,.int .i64 b.fuel,.int .i64 b.cells,.int .i64 b.hops] 31)).alloc (.cells #[.int .i64 ev.k,.string (bs ev.t),.int .i64 ev.e] 39)) (S:=nothing) ((Fr.refl _ _).alloc _) id;have me:=af (Fr.refl nothing ((w.alloc (.cells #[.int .i64 b.id,.int .i64 b.bu,.slice sc.a sc.n sc.c,.slice sw.a sw.n sw.c,.slice qf.a qf.n qf.c,.slice qh.a qh.n qh.c,.int .i64 b.fuel,.int .i64 b.cells,.int .i64 b.hops] 31)).alloc (.cells #[.int .i64 ev.k,.string (bs ev.t),.int .i64 ev.e] 39))) id;have z6:(w.alloc (.cells #[.int .i64 b.id,.int .i64 b.bu,.slice sc.a sc.n sc.c,.slice sw.a sw.n sw.c,.slice qf.a qf.n qf.c,.slice qh.a qh.n qh.c,.int .i64 b.fuel,.int .i64 b.cells,.int .i64 b.hops] 31)).heap.size=w.heap.size+1:=by simp
 rw[z6] at me;have hc:∀j,w'.cell? ⟨w.heap.size,j,none⟩=_:=fun j=>(hf.cell (p:=⟨w.heap.size,j,none⟩) mx.2.2 id).trans (mx.1 j)
 have hd:∀j,w'.cell? ⟨w.heap.size+1,j,none⟩=_:=fun j=>(hf.cell (p:=⟨w.heap.size+1,j,none⟩) me.2.2 id).trans (me.1 j)
 exact⟨⟨⟨hc 0,hc 1,hc 2,hc 3,hc 4⟩,hc 5,hc 6,hc 7,hc 8⟩,⟨hd 0,hd 1,hd 2⟩,Nat.lt_of_lt_of_le mx.2.2 hf.size,Nat.lt_of_lt_of_le me.2.2 hf.size⟩
end
end Go.Proofs.YtbcadjgpcfmkfaaGreatDoor
