/- LRight; LSpends. -/
import Derived.Test.YtbcadjgpcfmkfaaGreatDoorPartU21
import Derived.Test.YtbcadjgpcfmkfaaGreatDoorPartU25
import Derived.Test.YtbcadjgpcfmkfaaGreatDoorPartU1
import Derived.Test.YtbcadjgpcfmkfaaGreatDoorPartU16
set_option maxHeartbeats 0
set_option maxRecDepth 100000
set_option linter.unusedSimpArgs false
namespace Go.Proofs.YtbcadjgpcfmkfaaGreatDoor
open Go Go.RowKit
section
def nX (a:Ag) (sp:Sp):Bool:=(sp.facts.all fun x=>ah 0 x.2==0)&&(decide (sp.name.length<=12)&&(dx a false==0))
theorem MM {a:Ag} {sp:Sp} (h:nX a sp=true):TB sp/\sp.name.length<=12/\dx a false=0:=by
 unfold nX at h;simp only[Bool.and_eq_true,decide_eq_true_eq,beq_iff_eq,List.all_eq_true] at h;exact⟨⟨h.1⟩,h.2.1,h.2.2⟩
theorem JN (a:Ag) (sc sw sf sh:ai) (sp:Sp) (cu:ai) (kD kE:Int) (w:World) (hA:iK w sc sw sf sh a) (hW:YV a) (hfs:Sl kF 4 w cu.v sp.facts) (hwf:∀x∈sp.facts,wX x.2) (hnl:sp.name.length<=9223372036854775807):
 Calls Tryz.prog 7 #[.agg (gH a sc sw sf sh),.agg #[.string (bs sp.name),.slice cu.a cu.n cu.c,.int .i64 kD,.int .i64 kE]] w fun e w'=>e=.returned (.bool (nX a sp))/\Fr nothing w w':=by
 have F1:Fr nothing w (w.alloc (.cells (gH a sc sw sf sh) 31)):=(Fr.refl _ _).alloc _;obtain⟨w1,hw1⟩:∃y,y=w.alloc (.cells (gH a sc sw sf sh) 31):=⟨_,rfl⟩
 have F2:Fr nothing w1 (w1.alloc (.cells #[.string (bs sp.name),.slice cu.a cu.n cu.c,.int .i64 kD,.int .i64 kE] 34)):=(Fr.refl _ _).alloc _;obtain⟨w2,hw2⟩:∃y,y=w1.alloc (.cells #[.string (bs sp.name),.slice cu.a cu.n cu.c,.int .i64 kD,.int .i64 kE] 34):=⟨_,rfl⟩
 rw[<-hw1] at F1;rw[<-hw2] at F2;have z1:w1.heap.size=w.heap.size+1:=by rw[hw1];simp
 have ma:=af (w:=w) (cs:=gH a sc sw sf sh) (t:=31) (w1:=w2) (S:=nothing) (by rw[<-hw1];exact F2) id;have ms:=af (w:=w1) (cs:=#[.string (bs sp.name),.slice cu.a cu.n cu.c,.int .i64 kD,.int .i64 kE]) (t:=34) (w1:=w2) (S:=nothing) (by rw[<-hw2];exact Fr.refl _ _) id
 rw[z1] at ms;have bq:Hid (Fr nothing w w2):=F1.trans F2;have jY:Hid (∀w',Fr nothing w2 w'->((w'.cell? ⟨w.heap.size,0,none⟩=some (.int .i64 a.id)/\w'.cell? ⟨w.heap.size,1,none⟩=some (.int .i64 a.bu)/\w'.cell? ⟨w.heap.size,2,none⟩=some (.slice sc.a sc.n sc.c)/\w'.cell? ⟨w.heap.size,3,none⟩=some (.slice sw.a sw.n sw.c)/\w'.cell? ⟨w.heap.size,4,none⟩=some (.slice sf.a sf.n sf.c))/\(w'.cell? ⟨w.heap.size,5,none⟩=some (.slice sh.a sh.n sh.c)/\w'.cell? ⟨w.heap.size,6,none⟩=some (.int .i64 a.fuel)/\w'.cell? ⟨w.heap.size,7,none⟩=some (.int .i64 a.cells)/\w'.cell? ⟨w.heap.size,8,none⟩=some (.int .i64 a.hops)))/\(w'.cell? ⟨w.heap.size+1,0,none⟩=some (.string (bs sp.name))/\w'.cell? ⟨w.heap.size+1,1,none⟩=some (.slice cu.a cu.n cu.c))/\w.heap.size<w'.heap.size/\w.heap.size+1<w'.heap.size):=fun w' hf=>by
  have hc:∀j,w'.cell? ⟨w.heap.size,j,none⟩=_:=fun j=>(hf.cell (p:=⟨w.heap.size,j,none⟩) ma.2.2 id).trans (ma.1 j)
  have hd:∀j,w'.cell? ⟨w.heap.size+1,j,none⟩=_:=fun j=>(hf.cell (p:=⟨w.heap.size+1,j,none⟩) ms.2.2 id).trans (ms.1 j)
  exact⟨⟨⟨hc 0,hc 1,hc 2,hc 3,hc 4⟩,hc 5,hc 6,hc 7,hc 8⟩,⟨hd 0,hd 1⟩,Nat.lt_of_lt_of_le ma.2.2 hf.size,Nat.lt_of_lt_of_le ms.2.2 hf.size⟩
 have HA2:=hide (hA.fr' bq.out);have BC:Hid (∀w',Fr nothing w2 w'->Sl kF 4 w' cu.v sp.facts):=fun w' hf=>hfs.fr (bq.out.trans hf) (fun _ _=>id)
 have XY:Hid (∀w',Fr nothing w2 w'->Calls Tryz.prog 16 #[.agg (gH a sc sw sf sh),.bool false] w' fun e w''=>e=.returned (.int .i64 (dx a false))/\Fr nothing w' w''):=fun w' hf=>JH a sc sw sf sh false w' (HA2.out.fr' hf) hW
 obtain⟨Z0,mfs⟩:=ay hfs;have hbn:=dz sp.name;have pQ:=hw1.symm;have e2':=hw2.symm;have bV:Hid (nX a sp=((sp.facts.all fun x=>ah 0 x.2==0)&&(decide (sp.name.length<=12)&&(dx a false==0)))):=rfl;generalize nX a sp=RB at*;obtain⟨ae,hae⟩:∃x,dx a false=x:=⟨_,rfl⟩
 rw[hae] at XY bV;obtain⟨fa,fn,fc⟩:=cu;simp only at Z0;subst Z0;obtain⟨⟨⟨q0,q1,q2,q3,q4⟩,q5,q6,q7,q8⟩,⟨p0,p1⟩,pl,ql⟩:=jY.out w2 (Fr.refl _ _);clear hA hW hfs F1 F2 ma ms hw1 hw2 hae
 go_enter Tryz.func7,Tryz.ntmps7
 go_wp2_with fail
 clear q0 q1 q2 q3 q4 q5 q6 q7 q8 p0 p1 pl ql pQ e2'
 go_loopw [10,6] (fun i _ wv=>∃j:Nat,j<=sp.facts.length/\i=.int .i64 j/\Hid (Fr nothing w2 wv/\((sp.facts.drop j).all fun x=>ah 0 x.2==0)=sp.facts.all fun x=>ah 0 x.2==0)) (fun i _ _=>sp.facts.length-(intOf i).toNat)
 case atStart=>exact⟨0,Nat.zero_le _,rfl,Fr.refl _ _,rfl⟩
 case round=>
  obtain⟨j,hj,rfl,hRj⟩:=hrel;obtain⟨hfj,BD⟩:=hRj.out;have Gh:=hide hfj
  by_cases hjl:j<sp.facts.length
  ·have hx:sp.facts[j]?=some sp.facts[j]:=List.getElem?_eq_getElem hjl;have hwx:=hwf _ (List.getElem_mem hjl);have hdr:=List.drop_eq_getElem_cons hjl;rw[hdr,List.all_cons] at BD;generalize sp.facts[j]=y at*;obtain⟨g,o,e1,dg,u0,u1,u2,u3⟩:=BB (s:=⟨fa,sp.facts.length,fc⟩) (BC.out wr hfj) hx;simp only at e1;subst e1;obtain⟨yk,yv⟩:=y;simp only at u0 u1 u2 u3 BD hwx;have HRW:=hide (fun w'=>jy yv 0 w' hwx.t);obtain⟨we,Za⟩:∃x,ah 0 yv=x:=⟨_,rfl⟩
   rw[Za] at BD HRW;have HEJ:=hide BD;clear hRj hfj BD hx Za hdr hwx
   by_cases hz:we=0
   ·subst hz
    go_wp2_with (go_at_call 15;refine(HRW.out _).mono ?_;rintro e w5 ⟨rfl,cK⟩;have aX:=hide ((Gh.out.alloc (.cells #[.string (bs yk),.int .i64 yv.k,.int .i64 yv.n,.string (bs yv.t)] 55)).trans cK);clear cK)
    have HE2:Hid (((sp.facts.drop (j+1)).all fun x=>ah 0 x.2==0)=sp.facts.all fun x=>ah 0 x.2==0):=by
     refine hide ?_
     rw[<-HEJ.out];simp
    refine⟨⟨j+1,by omega,by go_num,aX.out,HE2.out⟩,by simp[intOf];omega⟩
   ·have hzb:(we !=0)=true:=by simpa using hz
    go_wp2_with (go_at_call 15;refine(HRW.out _).mono ?_;rintro e w5 ⟨rfl,cK⟩;have aX:=hide ((Gh.out.alloc (.cells #[.string (bs yk),.int .i64 yv.k,.int .i64 yv.n,.string (bs yv.t)] 55)).trans cK);clear cK)
    go_ret
    refine⟨?_,bq.out.trans aX.out⟩
    rw[bV.out,<-HEJ.out];simp[hz]
  ·rw[List.drop_eq_nil_of_le (by omega),List.all_nil] at BD;have HEJ:=hide BD;clear hRj hfj BD;obtain⟨⟨⟨q0,q1,q2,q3,q4⟩,q5,q6,q7,q8⟩,⟨p0,p1⟩,pl,ql⟩:=jY.out wr Gh.out;have HR5:=hide (XY.out wr Gh.out)
   by_cases hn:sp.name.length<=12
   ·have hnb:decide ((sp.name.length:Int)<=12)=true:=by simpa using(by omega:(sp.name.length:Int)<=12)
    go_wp2_with (go_at_call 16;refine HR5.out.mono ?_;rintro e w5 ⟨rfl,cK⟩;have aX:=hide cK;clear cK)
    go_ret
    refine⟨?_,bq.out.trans (Gh.out.trans aX.out)⟩
    rw[bV.out,<-HEJ.out];simp[hn]
   ·have hnb:decide ((sp.name.length:Int)<=12)=false:=by simpa using(by omega:¬(sp.name.length:Int)<=12)
    go_wp2_with fail
    go_ret
    refine⟨?_,bq.out.trans Gh.out⟩
    rw[bV.out,<-HEJ.out];simp[hn]
end
section
theorem ET (a:Ag) (sc sw sf sh:ai) (sp:Sp) (cu:ai) (kD kE n:Int) (w:World) (hA:iK w sc sw sf sh a) (hW:YV a) (hfs:Sl kF 4 w cu.v sp.facts) (hwf:∀x∈sp.facts,wX x.2) (hnl:sp.name.length<=9223372036854775807) (hn0:-9223372036854775808<=n) (hn1:n<=9223372036854775807)
 (hal:∀w1,Fr nothing w w1->Calls Tryz.prog 6 #[] w1 fun e w'=>e=.returned (.bool true)/\Fr nothing w1 w') (ht:∀w',Fr nothing w w'->Cl.rC w'):
 Calls Tryz.prog 5 #[.agg (gH a sc sw sf sh),.agg #[.string (bs sp.name),.slice cu.a cu.n cu.c,.int .i64 kD,.int .i64 kE],.int .i64 n] w fun e w'=>e=.returned (.bool true)/\Fr nothing w w':=by
 have F1:Fr nothing w (w.alloc (.cells (gH a sc sw sf sh) 31)):=(Fr.refl _ _).alloc _;obtain⟨w1,hw1⟩:∃y,y=w.alloc (.cells (gH a sc sw sf sh) 31):=⟨_,rfl⟩
 have F2:Fr nothing w1 (w1.alloc (.cells #[.string (bs sp.name),.slice cu.a cu.n cu.c,.int .i64 kD,.int .i64 kE] 34)):=(Fr.refl _ _).alloc _;obtain⟨w2,hw2⟩:∃y,y=w1.alloc (.cells #[.string (bs sp.name),.slice cu.a cu.n cu.c,.int .i64 kD,.int .i64 kE] 34):=⟨_,rfl⟩
 rw[<-hw1] at F1;rw[<-hw2] at F2;have z1:w1.heap.size=w.heap.size+1:=by rw[hw1];simp
 have ma:=af (w:=w) (cs:=gH a sc sw sf sh) (t:=31) (w1:=w2) (S:=nothing) (by rw[<-hw1];exact F2) id;have ms:=af (w:=w1) (cs:=#[.string (bs sp.name),.slice cu.a cu.n cu.c,.int .i64 kD,.int .i64 kE]) (t:=34) (w1:=w2) (S:=nothing) (by rw[<-hw2];exact Fr.refl _ _) id
 rw[z1] at ms;have bq:Hid (Fr nothing w w2):=F1.trans F2;have jY:Hid (∀w',Fr nothing w2 w'->((w'.cell? ⟨w.heap.size,0,none⟩=some (.int .i64 a.id)/\w'.cell? ⟨w.heap.size,1,none⟩=some (.int .i64 a.bu)/\w'.cell? ⟨w.heap.size,2,none⟩=some (.slice sc.a sc.n sc.c)/\w'.cell? ⟨w.heap.size,3,none⟩=some (.slice sw.a sw.n sw.c)/\w'.cell? ⟨w.heap.size,4,none⟩=some (.slice sf.a sf.n sf.c))/\(w'.cell? ⟨w.heap.size,5,none⟩=some (.slice sh.a sh.n sh.c)/\w'.cell? ⟨w.heap.size,6,none⟩=some (.int .i64 a.fuel)/\w'.cell? ⟨w.heap.size,7,none⟩=some (.int .i64 a.cells)/\w'.cell? ⟨w.heap.size,8,none⟩=some (.int .i64 a.hops)))/\(w'.cell? ⟨w.heap.size+1,0,none⟩=some (.string (bs sp.name))/\w'.cell? ⟨w.heap.size+1,1,none⟩=some (.slice cu.a cu.n cu.c)/\w'.cell? ⟨w.heap.size+1,2,none⟩=some (.int .i64 kD)/\w'.cell? ⟨w.heap.size+1,3,none⟩=some (.int .i64 kE))/\w.heap.size<w'.heap.size/\w.heap.size+1<w'.heap.size):=fun w' hf=>by
  have hc:∀j,w'.cell? ⟨w.heap.size,j,none⟩=_:=fun j=>(hf.cell (p:=⟨w.heap.size,j,none⟩) ma.2.2 id).trans (ma.1 j)
  have hd:∀j,w'.cell? ⟨w.heap.size+1,j,none⟩=_:=fun j=>(hf.cell (p:=⟨w.heap.size+1,j,none⟩) ms.2.2 id).trans (ms.1 j)
  exact⟨⟨⟨hc 0,hc 1,hc 2,hc 3,hc 4⟩,hc 5,hc 6,hc 7,hc 8⟩,⟨hd 0,hd 1,hd 2,hd 3⟩,Nat.lt_of_lt_of_le ma.2.2 hf.size,Nat.lt_of_lt_of_le ms.2.2 hf.size⟩
 have HA2:=hide (hA.fr' bq.out);have BC:Hid (∀w',Fr nothing w2 w'->Sl kF 4 w' cu.v sp.facts):=fun w' hf=>hfs.fr (bq.out.trans hf) (fun _ _=>id)
 have HAL:=hide (hal w2 bq.out);have HRI:Hid (∀w',Fr nothing w2 w'->Calls Tryz.prog 7 #[.agg (gH a sc sw sf sh),.agg #[.string (bs sp.name),.slice cu.a cu.n cu.c,.int .i64 kD,.int .i64 kE]] w' fun e w''=>e=.returned (.bool (nX a sp))/\Fr nothing w' w''):=fun w' hf=>JN a sc sw sf sh sp cu kD kE w' (HA2.out.fr' hf) hW (BC.out w' hf) hwf hnl
 have HTA:Hid (∀w',Fr nothing w2 w'->Cl.rC w'):=fun w' hf=>ht w' (bq.out.trans hf)
 have pQ:=hw1.symm;have e2':=hw2.symm;have HRR:=hide (@MM a sp);generalize nX a sp=RB at*;obtain⟨⟨⟨q0,q1,q2,q3,q4⟩,q5,q6,q7,q8⟩,⟨p0,p1,p2,p3⟩,pl,ql⟩:=jY.out w2 (Fr.refl _ _);clear hA hW hfs hwf hnl hal ht F1 F2 ma ms hw1 hw2
 by_cases hgo:RB=true/\0<=n/\n<=500
 case neg=>
  cases RB
  ·clear HRR
   go_enter Tryz.func5,Tryz.ntmps5
   go_wp2_with (first
    |(go_at_call 7;refine(HRI.out _ dX.out).mono ?_;rintro e w4 ⟨rfl,gm⟩;have gX:=hide (dX.out.trans gm);clear gm)
    |(go_at_call 6;refine HAL.out.mono ?_;rintro e w3 ⟨rfl,hf3⟩;have dX:=hide hf3;obtain⟨⟨⟨x0,x1,x2,x3,x4⟩,x5,x6,x7,x8⟩,⟨y0,y1,y2,y3⟩,xl,yl⟩:=jY.out w3 hf3;clear hf3))
   go_ret
   exact⟨rfl,bq.out.trans gX.out⟩
  ·clear HRR;have hor:n<0\/500<n:=by
    by_cases h1:n<0
    ·exact .inl h1
    ·exact .inr (Int.not_le.1 (fun e=>hgo ⟨rfl,Int.not_lt.1 h1,e⟩))
   clear hgo;rcases hor with hb|hb
   all_goals
    go_enter Tryz.func5,Tryz.ntmps5
    go_wp2_with (first
     |(go_at_call 7;refine(HRI.out _ dX.out).mono ?_;rintro e w4 ⟨rfl,gm⟩;have gX:=hide (dX.out.trans gm);clear gm)
     |(go_at_call 6;refine HAL.out.mono ?_;rintro e w3 ⟨rfl,hf3⟩;have dX:=hide hf3;obtain⟨⟨⟨x0,x1,x2,x3,x4⟩,x5,x6,x7,x8⟩,⟨y0,y1,y2,y3⟩,xl,yl⟩:=jY.out w3 hf3;clear hf3))
    go_ret
    exact⟨rfl,bq.out.trans gX.out⟩
 obtain⟨rfl,hb0,hb1⟩:=hgo;obtain⟨hsp,hnm,hR⟩:=HRR.out rfl;have hcv:=(bB.1 (qz hR).choose_spec.choose_spec.ct).2.1;have hS:=vB fZ sp n.toNat a (by omega) (by omega) (by omega);have HRU:Hid (∀w',Fr nothing w2 w'->Calls Tryz.prog 8 #[.agg (gH a sc sw sf sh),.agg #[.string (bs sp.name),.slice cu.a cu.n cu.c,.int .i64 kD,.int .i64 kE],.int .i64 n] w' (TS w' (gD fZ sp n.toNat a))):=fun w' hf=>yc a sc sw sf sh sp cu kD kE n w' (HA2.out.fr' hf) hR (BC.out w' hf) hsp (by omega) (fun w'' hf'=>HTA.out w'' (hf.trans hf')) hn0 hn1
 generalize gD fZ sp n.toNat a=R at*;obtain⟨b,ev⟩:=R;have HS:=hide hS;have HCV:=hide hcv;have hcl:=(bB.1 (qz hR).choose_spec.choose_spec.ct).2.2.2;have XZ:=hide hcl;clear hS HRR hsp hnm hR hcv hcl
 go_enter Tryz.func5,Tryz.ntmps5
 go_wp2_with (first
  |(go_at_call 8;refine(HRU.out _ gX.out).mono ?_;rintro e w5 ⟨aY,bG,qf,qh,rfl,cK,Og⟩;have aX:=hide (gX.out.trans cK);have WA:=hide Og;obtain⟨⟨⟨t0,t1,t2,t3,t4⟩,t5,t6,t7,t8⟩,⟨r0,r1,r2,r3⟩,tl,rl⟩:=jY.out w5 aX.out;clear cK Og)
  |(go_at_call 7;refine(HRI.out _ dX.out).mono ?_;rintro e w4 ⟨rfl,gm⟩;have gX:=hide (dX.out.trans gm);obtain⟨⟨⟨s0,s1,s2,s3,s4⟩,s5,s6,s7,s8⟩,⟨VA,v1',v2',v3'⟩,sl',vl⟩:=jY.out w4 gX.out;clear gm)
  |(go_at_call 6;refine HAL.out.mono ?_;rintro e w3 ⟨rfl,hf3⟩;have dX:=hide hf3;obtain⟨⟨⟨x0,x1,x2,x3,x4⟩,x5,x6,x7,x8⟩,⟨y0,y1,y2,y3⟩,xl,yl⟩:=jY.out w3 hf3;clear hf3))
 have FX:Fr nothing w5 (w5.alloc (.cells #[.int .i64 b.id,.int .i64 b.bu,.slice aY.a aY.n aY.c,.slice bG.a bG.n bG.c,.slice qf.a qf.n qf.c,.slice qh.a qh.n qh.c,.int .i64 b.fuel,.int .i64 b.cells,.int .i64 b.hops] 31)):=(Fr.refl _ _).alloc _;obtain⟨w6,nK⟩:∃y,y=w5.alloc (.cells #[.int .i64 b.id,.int .i64 b.bu,.slice aY.a aY.n aY.c,.slice bG.a bG.n bG.c,.slice qf.a qf.n qf.c,.slice qh.a qh.n qh.c,.int .i64 b.fuel,.int .i64 b.cells,.int .i64 b.hops] 31):=⟨_,rfl⟩
 have FE:Fr nothing w6 (w6.alloc (.cells #[.int .i64 ev.k,.string (bs ev.t),.int .i64 ev.e] 39)):=(Fr.refl _ _).alloc _;obtain⟨w7,hw7⟩:∃y,y=w6.alloc (.cells #[.int .i64 ev.k,.string (bs ev.t),.int .i64 ev.e] 39):=⟨_,rfl⟩
 rw[<-nK] at FX;rw[<-hw7] at FE;have z6:w6.heap.size=w5.heap.size+1:=by rw[nK];simp
 have mx:=af (w:=w5) (cs:=#[.int .i64 b.id,.int .i64 b.bu,.slice aY.a aY.n aY.c,.slice bG.a bG.n bG.c,.slice qf.a qf.n qf.c,.slice qh.a qh.n qh.c,.int .i64 b.fuel,.int .i64 b.cells,.int .i64 b.hops]) (t:=31) (w1:=w7) (S:=nothing) (by rw[<-nK];exact FE) id;have me:=af (w:=w6) (cs:=#[.int .i64 ev.k,.string (bs ev.t),.int .i64 ev.e]) (t:=39) (w1:=w7) (S:=nothing) (by rw[<-hw7];exact Fr.refl _ _) id
 rw[z6] at me;have dH:Hid (Fr nothing w2 w7):=aX.out.trans (FX.trans FE);have hz57:=aX.out.size;have iL:Hid (∀w',Fr nothing w7 w'->(w'.cell? ⟨w.heap.size,4,none⟩=some (.slice sf.a sf.n sf.c)/\w'.cell? ⟨w.heap.size,5,none⟩=some (.slice sh.a sh.n sh.c)/\w'.cell? ⟨w.heap.size,6,none⟩=some (.int .i64 a.fuel)/\w'.cell? ⟨w.heap.size,7,none⟩=some (.int .i64 a.cells)/\w'.cell? ⟨w.heap.size,8,none⟩=some (.int .i64 a.hops))/\(w'.cell? ⟨w5.heap.size,5,none⟩=some (.slice qh.a qh.n qh.c)/\w'.cell? ⟨w5.heap.size,6,none⟩=some (.int .i64 b.fuel)/\w'.cell? ⟨w5.heap.size,7,none⟩=some (.int .i64 b.cells)/\w'.cell? ⟨w5.heap.size,8,none⟩=some (.int .i64 b.hops))/\(w'.cell? ⟨w5.heap.size+1,0,none⟩=some (.int .i64 ev.k)/\w'.cell? ⟨w5.heap.size+1,1,none⟩=some (.string (bs ev.t)))):=fun w' hf=>by
  have hc:∀j,w'.cell? ⟨w5.heap.size,j,none⟩=_:=fun j=>(hf.cell (p:=⟨w5.heap.size,j,none⟩) mx.2.2 id).trans (mx.1 j)
  have hd:∀j,w'.cell? ⟨w5.heap.size+1,j,none⟩=_:=fun j=>(hf.cell (p:=⟨w5.heap.size+1,j,none⟩) me.2.2 id).trans (me.1 j)
  obtain⟨⟨⟨-,-,-,-,q4⟩,q5,q6,q7,q8⟩,-,-,-⟩:=jY.out w' (dH.out.trans hf);exact⟨⟨q4,q5,q6,q7,q8⟩,⟨hc 5,hc 6,hc 7,hc 8⟩,hd 0,hd 1⟩
 rw[<-nK,<-hw7];clear t0 t1 t2 t3 t4 t5 t6 t7 t8 r0 r1 r2 r3 tl rl s0 s1 s2 s3 s4 s5 s6 s7 s8 VA v1' v2' v3' sl' vl x0 x1 x2 x3 x4 x5 x6 x7 x8 y0 y1 y2 y3 xl yl FX FE mx me nK hw7
 go_cut [9,10] (fun v9 v10 wx=>∃pb qb:Nat,v9=.pointer (some ⟨pb,0,none⟩)/\v10=.pointer (some ⟨qb,0,none⟩)/\Hid (Fr nothing w7 wx/\(wx.cell? ⟨pb,0,none⟩=some (.int .i64 a.fuel)/\wx.cell? ⟨pb,1,none⟩=some (.int .i64 a.cells)/\wx.cell? ⟨pb,2,none⟩=some (.int .i64 a.hops))/\wx.cell? ⟨qb,0,none⟩=some (.int .i64 b.fuel)/\wx.cell? ⟨qb,1,none⟩=some (.int .i64 b.cells)/\wx.cell? ⟨qb,2,none⟩=some (.int .i64 b.hops)))
 case first=>
  refine hd iL (fun hHeld=>?_)
  have oN:Fr nothing w7 w7.drew:=(Fr.refl nothing w7).drew;generalize w7.drew=w8 at*;refine tk 0 ?_
  refine tk 1 ?_
  refine tk 2 ?_
  refine tk 3 ?_
  refine rH [4,5] ?_
  refine cH (fun K hK=>?_) (cH (fun K hK=>?_) AllReadyH.nil)
  ·go_simp;refine hK _ _ (iL.out _ (oN.alloc _)) (fun _=>?_)
   clear hK K
   try simp only[Act.put,sA,sZ,sS]
   refine iP 5 (fun K hK=>?_)
   go_simp;refine hK _ _ (iL.out _ ((oN.alloc _).alloc _)) (fun _=>?_)
   clear hK K
   try simp only[Act.put,sA,sZ,sS]
   refine iP 6 (fun K hK=>?_)
   go_simp;refine hK _ _ (iL.out _ ((oN.alloc _).alloc _)) (fun _=>?_)
   clear hK K
   try simp only[Act.put,sA,sZ,sS]
   refine iP 7 (fun K hK=>?_)
   go_simp;refine hK _ _ (iL.out _ ((oN.alloc _).alloc _)) (fun _=>?_)
   clear hK K
   try simp only[Act.put,sA,sZ,sS]
   refine wpAnyH_done (by kernel_rfl) ?_ _
   have m1:=af (w:=w8) (cs:=#[.int .i64 a.fuel,.int .i64 a.cells,.int .i64 a.hops]) (t:=29) (w1:=(w8.alloc (.cells #[.int .i64 a.fuel,.int .i64 a.cells,.int .i64 a.hops] 29)).alloc (.cells #[.int .i64 b.fuel,.int .i64 b.cells,.int .i64 b.hops] 29)) (S:=nothing) ((Fr.refl _ _).alloc _) id;have m2:=af (Fr.refl nothing ((w8.alloc (.cells #[.int .i64 a.fuel,.int .i64 a.cells,.int .i64 a.hops] 29)).alloc (.cells #[.int .i64 b.fuel,.int .i64 b.cells,.int .i64 b.hops] 29))) id;have z9:(w8.alloc (.cells #[.int .i64 a.fuel,.int .i64 a.cells,.int .i64 a.hops] 29)).heap.size=w8.heap.size+1:=by simp
   rw[z9] at m2;have hF:=(oN.alloc (.cells #[.int .i64 a.fuel,.int .i64 a.cells,.int .i64 a.hops] 29)).alloc (.cells #[.int .i64 b.fuel,.int .i64 b.cells,.int .i64 b.hops] 29);generalize(w8.alloc (.cells #[.int .i64 a.fuel,.int .i64 a.cells,.int .i64 a.hops] 29)).alloc (.cells #[.int .i64 b.fuel,.int .i64 b.cells,.int .i64 b.hops] 29)=w9 at*
   go_wp2_with fail
   go_meet
   case rel=>exact⟨w8.heap.size,w8.heap.size+1,rfl,rfl,hide ⟨hF,⟨m1.1 0,m1.1 1,m1.1 2⟩,m2.1 0,m2.1 1,m2.1 2⟩⟩
  ·go_simp;refine hK _ _ (iL.out _ (oN.alloc _)) (fun _=>?_)
   clear hK K
   try simp only[Act.put,sA,sZ,sS]
   refine iP 4 (fun K hK=>?_)
   go_simp;refine hK _ _ (iL.out _ ((oN.alloc _).alloc _)) (fun _=>?_)
   clear hK K
   try simp only[Act.put,sA,sZ,sS]
   refine iP 6 (fun K hK=>?_)
   go_simp;refine hK _ _ (iL.out _ ((oN.alloc _).alloc _)) (fun _=>?_)
   clear hK K
   try simp only[Act.put,sA,sZ,sS]
   refine iP 7 (fun K hK=>?_)
   go_simp;refine hK _ _ (iL.out _ ((oN.alloc _).alloc _)) (fun _=>?_)
   clear hK K
   try simp only[Act.put,sA,sZ,sS]
   refine wpAnyH_done (by kernel_rfl) ?_ _
   have m1:=af (w:=w8) (cs:=#[.int .i64 b.fuel,.int .i64 b.cells,.int .i64 b.hops]) (t:=29) (w1:=(w8.alloc (.cells #[.int .i64 b.fuel,.int .i64 b.cells,.int .i64 b.hops] 29)).alloc (.cells #[.int .i64 a.fuel,.int .i64 a.cells,.int .i64 a.hops] 29)) (S:=nothing) ((Fr.refl _ _).alloc _) id;have m2:=af (Fr.refl nothing ((w8.alloc (.cells #[.int .i64 b.fuel,.int .i64 b.cells,.int .i64 b.hops] 29)).alloc (.cells #[.int .i64 a.fuel,.int .i64 a.cells,.int .i64 a.hops] 29))) id;have z9:(w8.alloc (.cells #[.int .i64 b.fuel,.int .i64 b.cells,.int .i64 b.hops] 29)).heap.size=w8.heap.size+1:=by simp
   rw[z9] at m2;have hF:=(oN.alloc (.cells #[.int .i64 b.fuel,.int .i64 b.cells,.int .i64 b.hops] 29)).alloc (.cells #[.int .i64 a.fuel,.int .i64 a.cells,.int .i64 a.hops] 29);generalize(w8.alloc (.cells #[.int .i64 b.fuel,.int .i64 b.cells,.int .i64 b.hops] 29)).alloc (.cells #[.int .i64 a.fuel,.int .i64 a.cells,.int .i64 a.hops] 29)=w9 at*
   go_wp2_with fail
   go_meet
   case rel=>exact⟨w8.heap.size+1,w8.heap.size,rfl,rfl,hide ⟨hF,⟨m2.1 0,m2.1 1,m2.1 2⟩,m1.1 0,m1.1 1,m1.1 2⟩⟩
 case rest=>
  obtain⟨pb,qb,rfl,rfl,hcut⟩:=hcut;obtain⟨hfx,⟨a0,a1,a2⟩,b0,b1,b2⟩:=hcut.out;obtain⟨⟨y4,y5,y6,y7,y8⟩,⟨z5,z6,z7,z8⟩,e0,et⟩:=iL.out wc hfx;have HFX:=hide hfx;obtain⟨f0,f1,f2,f3,c0,c1,c2,h0,h1,h2⟩:=HS.out;simp only at f0 f1 f2 f3 c0 c1 c2 h0 h1 h2;have hnn:((n.toNat:Nat):Int)=n:=by omega
  rw[hnn] at f2 f3;have d1:decide (b.fuel<0)=false:=by simpa using f0
  have d2:decide (a.fuel<b.fuel)=false:=by simpa using f1
  have d3:decide (n<a.fuel-b.fuel)=false:=by simpa using f2
  have d4:decide (b.cells<0)=false:=by simpa using c0
  have d5:decide (a.cells<b.cells)=false:=by simpa using c1
  have d6:decide (b.hops<0)=false:=by simpa using h0
  have d7:decide (a.hops<b.hops)=false:=by simpa using h1
  obtain⟨g1,g2,g3,g4,g5,g6⟩:=HCV.out;have g7:=XZ.out;have nL:qh.n=b.hp.length:=(ay WA.out.hp).1;have hsn:sh.n=a.hp.length:=(ay HA2.out.hp).1;have w1:IntKind.i64.wrap (a.fuel-b.fuel)=a.fuel-b.fuel:=aO _ (by omega) (by omega);have w2:IntKind.i64.wrap ((qh.n:Int)-sh.n)=(qh.n:Int)-sh.n:=aO _ (by omega) (by omega);have w3:IntKind.i64.wrap (a.cells-b.cells)=a.cells-b.cells:=aO _ (by omega) (by omega);have w4:IntKind.i64.wrap (a.hops-1)=a.hops-1:=aO _ (by omega) (by omega);have d8:((qh.n:Int)-sh.n==a.cells-b.cells)=true:=by
   rw[nL,hsn,c2];simp
  obtain⟨ek,ekt,ee⟩:=ev;simp only at e0 et f3 h2;have HF:=hide (And.intro f3 h2);clear hcut hfx f0 f1 f2 f3 c0 c1 c2 h0 h1 h2 hnn g1 g2 g3 g4 g5 g6 g7 nL hsn
  by_cases k1:ek=1
  ·subst k1;have k2:=HF.out.1 rfl;have k3:b.hops=a.hops:=by
    rcases HF.out.2 with h|h
    ·exact absurd h.1 (by decide)
    ·exact h.2
   have j1:(a.fuel-b.fuel !=n)=false:=by simp[k2]
   have j2:(b.hops !=a.hops)=false:=by simp[k3]
   clear k2 k3
   go_wp2_with fail
   go_ret
   exact⟨rfl,bq.out.trans (dH.out.trans HFX.out)⟩
  ·have k1b:(ek==1)=false:=by simpa using k1
   by_cases k4:ek=3
   ·subst k4;have k3:b.hops=a.hops-1:=by
     rcases HF.out.2 with h|h
     ·exact h.2
     ·exact absurd rfl h.1
    have j2:(b.hops !=a.hops-1)=false:=by simp[k3]
    clear k3
    go_wp2_with fail
    go_ret
    exact⟨rfl,bq.out.trans (dH.out.trans HFX.out)⟩
   ·have k3:b.hops=a.hops:=by
     rcases HF.out.2 with h|h
     ·exact absurd h.1 k4
     ·exact h.2
    have j2:(b.hops !=a.hops)=false:=by simp[k3]
    have k4b:(ek==3)=false:=by simpa using k4
    have k4c:(ek !=3)=true:=by simpa using k4
    clear k3
    go_wp2_with fail
    go_ret
    exact⟨rfl,bq.out.trans (dH.out.trans HFX.out)⟩
end
end Go.Proofs.YtbcadjgpcfmkfaaGreatDoor
