/- StmtSet; StmtIf. -/
import Derived.Test.YtbcadjgpcfmkfaaGreatDoorPartU30
import Derived.Test.YtbcadjgpcfmkfaaGreatDoorPartU1
set_option maxHeartbeats 0
set_option maxRecDepth 100000
set_option linter.unusedSimpArgs false
namespace Go.Proofs.YtbcadjgpcfmkfaaGreatDoor
open Go Go.RowKit
section
set_option maxHeartbeats 4000000 in
set_option maxRecDepth 20000 in
theorem QW (w0:World) (rb:Nat) (l:Bs) (d:Int) (w:World) (h:Pw w0 rb l 0 w) (hd0:0<=d) (hd:d<=10) (one:Reader Ex) (hsmall:Small one) (hless:Less one) (kJ:gG one)
 (hone:∀l z w,Pw w0 rb l z w->Calls Tryz.prog 80 #[.pointer (some ⟨rb,0,none⟩),.int .i64 (d+1)] w (cO ev bF rb w (one l z)))
 {l1 l2 v:Bs} {z1 z2:Int} (hm:must 40 l 0=⟨(),l1,z1⟩) (hw:word l1 z1=⟨v,l2,z2⟩) {c:Nat} (hc:kindOf v=c) (h1:c=2) {nm l3:Bs} {z3:Int} (hnm:name l2 z2=⟨nm,l3,z3⟩)
 {q:Rd (List Ex)} (hq:times one (aA c) l3 z3=q):
 Calls Tryz.prog 69 #[.pointer (some ⟨rb,0,none⟩),.int .i64 d] w (cO sv gy rb w ⟨.mk c nm q.v [] [],(must 41 q.l q.z).l,(must 41 q.l q.z).z⟩):=by
 have hrb:=h.pr.lt;have hge:=h.ge;have hF1:Fr nothing w (w.alloc (.cells #[.int .i64 0,.string ⟨#[]⟩,.slice none 0 0,.slice none 0 0,.slice none 0 0] 136)):=(Fr.refl _ w).alloc _;have jw:Hid (∀w',Fr (at_ rb) (w.alloc (.cells #[.int .i64 0,.string ⟨#[]⟩,.slice none 0 0,.slice none 0 0,.slice none 0 0] 136)) w'->B5 w.heap.size (.int .i64 0) (.string ⟨#[]⟩) (.slice none 0 0) (.slice none 0 0) (.slice none 0 0) w'):=fun w' hf=>(B5.made w _ _ _ _ _ 136).fr hf (by show ¬w.heap.size=rb;omega)
 have HD:=hide (dN rb l 0 d _ (h.pr.fr hF1 id));have e0:bE d 0=0:=by simp[bE];omega
 rw[e0] at HD;have hl:=h.len;have hl1:l1.length<=l.length:=by have:=aJ 40 l 0;rw[hm] at this;exact this
 have hl2:l2.length<=l1.length:=by have:=bU l1 z1;rw[hw] at this;exact this
 have hvl:v.length<=1500:=by
  have:v=(word l1 z1).v:=by rw[hw]
  rw[this];exact Nat.le_trans (List.takeWhile_sublist _).length_le (Nat.le_trans (aG _) (by omega))
 have zF:Hid (∀w',Pr rb l 0 w'->Calls Tryz.prog 54 #[.pointer (some ⟨rb,0,none⟩),.int .u8 40] w' fun r w''=>r=.returned (.tuple #[])/\Pr rb l1 z1 w''/\Fr (at_ rb) w' w''):=fun w' hp=>by
  have:=bR rb l 0 40 w' hp hl (by decide);rw[hm] at this;exact this
 have qO:Hid (∀w',Pr rb l1 z1 w'->Calls Tryz.prog 66 #[.pointer (some ⟨rb,0,none⟩)] w' fun e w''=>e=.returned (.string (bs v))/\Pr rb l2 z2 w''/\Fr (at_ rb) w' w''):=fun w' hp=>by
  have:=eU rb l1 z1 w' hp (by omega);rw[hw] at this;exact this
 have HH:=hide h;have mg:=hide hone;have HQ:=hide hq;have hwr:IntKind.i64.wrap (d+1)=d+1:=aO _ (by omega) (by omega);obtain⟨j0,hj0,hy0,hy1,hy2⟩:=info_parts qW;have i0:(0:Int)<=(c:Int):=by omega
 have i9:(c:Int)<10:=by omega
 have kK:c<10:=by omega
 have hg2:([.int .i64 0,.int .i64 1,.int .i64 1,.int .i64 1,.int .i64 1,.int .i64 1,.int .i64 1,.int .i64 2,.int .i64 2,.int .i64 1]:List Value)[c]'(by simp;omega)=.int .i64 (aA c):=by
  have:=bO c kK;rw[List.getElem?_toArray,List.getElem?_eq_getElem (by simp;omega)] at this
  exact Option.some.inj this
 have Gm:Hid (∀w',Pr rb l2 z2 w'->Calls Tryz.prog 55 #[.pointer (some ⟨rb,0,none⟩)] w' fun e w''=>e=.returned (.string (bs nm))/\Pr rb l3 z3 w''/\Fr (at_ rb) w' w''):=fun w' hp=>by
  have:=pV rb l2 z2 w' hp (by omega);rw[hnm] at this;exact this
 have hl3:l3.length<=l2.length:=by have:=fJ l2 z2;rw[hnm] at this;exact this
 clear hnm;have q2:(c:Int)=2:=by omega
 have p2:((c:Int)==2)=true:=by simpa using q2
 clear q2;have q0:¬(c:Int)=0:=by omega
 have p0:((c:Int)==0)=false:=by simpa using q0
 have q1:¬(c:Int)=1:=by omega
 have p1:((c:Int)==1)=false:=by simpa using q1
 have q3:¬(c:Int)=3:=by omega
 have p3:((c:Int)==3)=false:=by simpa using q3
 have q4:¬(c:Int)=4:=by omega
 have p4:((c:Int)==4)=false:=by simpa using q4
 clear h1;clear h e0 hm hw hone hq hF1
 go_enter Tryz.func69,Tryz.ntmps69
 go_wp2_with (first
  |(go_at_call 79;refine HD.out.mono ?_;rintro e wd ⟨rfl,hp,hf⟩;have KF:=hide hp;have QI:=hide hf;clear hp hf)
  |(go_at_call 54;refine(zF.out _ KF.out).mono ?_;rintro e wm ⟨rfl,hp,hf⟩;have QJ:=hide hp;have Dv:=hide (QI.out.trans hf);clear hp hf)
  |(go_at_call 66;refine(qO.out _ QJ.out).mono ?_;rintro e w5 ⟨rfl,hp,hf⟩;have zK:=hide hp;have aX:=hide (Dv.out.trans hf);obtain⟨m1,m2,m3,m4,m5,m6,m7,m8,m9,r1,r2,r3,r4,r5,r6,r7,r8,r9,rl,hfm,hlm⟩:=jZ w5 v hvl;rw[hc] at rl;have hmm:=@run_makeMap Tryz.prog;have oU:=hide (aX.out.trans (gK hfm rb));have zL:=hide (hp.fr hfm id);have Ui:w.heap.size<m9.heap.size:=(by have:=oU.out.size;simp at this;omega);clear hp hf hfm)
  |(go_at_call 55;refine(Gm.out (m9.alloc (.cells #[.int .i64 c,.string ⟨#[]⟩,.slice none 0 0,.slice none 0 0,.slice none 0 0] 136)) (zL.out.fr ((Fr.refl nothing m9).alloc _) id)).mono ?_;rintro e wn ⟨rfl,hp,hf⟩;have hix:((wn.setCell ⟨m9.heap.size,1,none⟩ (.string (bs nm))).alloc (.cells #[.int .i64 0,.int .i64 1,.int .i64 1,.int .i64 1,.int .i64 1,.int .i64 1,.int .i64 1,.int .i64 2,.int .i64 2,.int .i64 1] 3)).cell? ⟨wn.heap.size,c,none⟩=some (.int .i64 (aA c)):=(by first|(rw[World.cell?_alloc_new];exact bO c kK)|(rw[show wn.heap.size=(wn.setCell ⟨m9.heap.size,1,none⟩ (.string (bs nm))).heap.size by first|(simp;done)|simp[World.setCell],World.cell?_alloc_new];exact bO c kK));have hB:=(B5.made m9 (.int .i64 c) (.string ⟨#[]⟩) (.slice none 0 0) (.slice none 0 0) (.slice none 0 0) 136).fr hf (by show ¬m9.heap.size=rb;omega);have HBN:=hide hB;obtain⟨x0,x1,x2,x3,x4,xf,xl⟩:=hB;have xf1:=xf 1;have ni:=hide ((oU.out.alloc (.cells #[.int .i64 c,.string ⟨#[]⟩,.slice none 0 0,.slice none 0 0,.slice none 0 0] 136)).trans hf);have Ze:=hide hp;clear hp hf xf)
  )
 have QM:Hid (w.heap.size<m9.heap.size):=Ui;have QK:=hide (HBN.out.set1 (.string (bs nm)));have BC:=hide (ni.out.setCell (p:=⟨m9.heap.size,1,none⟩) (.inr (by show(w.alloc _).heap.size<=m9.heap.size;simp;omega)) (.string (bs nm)))
 have QL:=hide (Ze.out.fr ((Fr.refl (fun k=>k=m9.heap.size) wn).setCell (p:=⟨m9.heap.size,1,none⟩) (.inl rfl) (.string (bs nm))) (by show ¬rb=m9.heap.size;omega));have hB0:B5 m9.heap.size (.int .i64 c) (.string (bs nm)) (.slice none 0 0) (.slice none 0 0) (.slice none 0 0) ((wn.setCell ⟨m9.heap.size,1,none⟩ (.string (bs nm))).alloc (.cells #[.int .i64 0,.int .i64 1,.int .i64 1,.int .i64 1,.int .i64 1,.int .i64 1,.int .i64 1,.int .i64 2,.int .i64 2,.int .i64 1] 3)):=QK.out.fr (S:=nothing) ((Fr.refl nothing _).alloc _) id;have nC:Fr (at_ rb) (w.alloc (.cells #[.int .i64 0,.string ⟨#[]⟩,.slice none 0 0,.slice none 0 0,.slice none 0 0] 136)) ((wn.setCell ⟨m9.heap.size,1,none⟩ (.string (bs nm))).alloc (.cells #[.int .i64 0,.int .i64 1,.int .i64 1,.int .i64 1,.int .i64 1,.int .i64 1,.int .i64 1,.int .i64 2,.int .i64 2,.int .i64 1] 3)):=BC.out.alloc _;have l9:Pw w0 rb l3 z3 ((wn.setCell ⟨m9.heap.size,1,none⟩ (.string (bs nm))).alloc (.cells #[.int .i64 0,.int .i64 1,.int .i64 1,.int .i64 1,.int .i64 1,.int .i64 1,.int .i64 1,.int .i64 2,.int .i64 2,.int .i64 1] 3)):=HH.out.of (QL.out.fr ((Fr.refl nothing _).alloc _) id) (by omega) (((Fr.refl (at_ rb) w).alloc _).trans nC);have hJ0:JL w0 rb 139 4 fQ bF ((wn.setCell ⟨m9.heap.size,1,none⟩ (.string (bs nm))).alloc (.cells #[.int .i64 0,.int .i64 1,.int .i64 1,.int .i64 1,.int .i64 1,.int .i64 1,.int .i64 1,.int .i64 2,.int .i64 2,.int .i64 1] 3)) m9.heap.size 2 [] l3 z3 ((wn.setCell ⟨m9.heap.size,1,none⟩ (.string (bs nm))).alloc (.cells #[.int .i64 0,.int .i64 1,.int .i64 1,.int .i64 1,.int .i64 1,.int .i64 1,.int .i64 1,.int .i64 2,.int .i64 2,.int .i64 1] 3)):=
  {pw:=l9,fr:=Fr.refl _ _,fz:=fun _=>rfl,old:=fun _ _=>rfl,le:=fun _=>by have:=l9.len;simpa using this,row:=⟨aN,hB0.c2,Row.nil _ (Nat.le_refl _)⟩}
 have oP:rb<((wn.setCell ⟨m9.heap.size,1,none⟩ (.string (bs nm))).alloc (.cells #[.int .i64 0,.int .i64 1,.int .i64 1,.int .i64 1,.int .i64 1,.int .i64 1,.int .i64 1,.int .i64 2,.int .i64 2,.int .i64 1] 3)).heap.size:=l9.pr.lt;have hbx:m9.heap.size<((wn.setCell ⟨m9.heap.size,1,none⟩ (.string (bs nm))).alloc (.cells #[.int .i64 0,.int .i64 1,.int .i64 1,.int .i64 1,.int .i64 1,.int .i64 1,.int .i64 1,.int .i64 2,.int .i64 2,.int .i64 1] 3)).heap.size:=hB0.lt;have hbw:w.heap.size<m9.heap.size:=QM.out;have zM:=hB0.f 2;have qX:w0.heap.size<=m9.heap.size/\w0.heap.size<=((wn.setCell ⟨m9.heap.size,1,none⟩ (.string (bs nm))).alloc (.cells #[.int .i64 0,.int .i64 1,.int .i64 1,.int .i64 1,.int .i64 1,.int .i64 1,.int .i64 1,.int .i64 2,.int .i64 2,.int .i64 1] 3)).heap.size:=⟨by omega,l9.vE.size⟩;have hne:m9.heap.size≠rb:=by omega
 have QN:=hide hJ0;have HB1:=hide hB0;have iy:=hide nC;clear hJ0 hB0 nC l9;generalize hw1:((wn.setCell ⟨m9.heap.size,1,none⟩ (.string (bs nm))).alloc (.cells #[.int .i64 0,.int .i64 1,.int .i64 1,.int .i64 1,.int .i64 1,.int .i64 1,.int .i64 1,.int .i64 2,.int .i64 2,.int .i64 1] 3))=w1 at*;clear hw1;generalize hbs:m9.heap.size=bA at*;clear hbs
 go_loopw [40] (fun i wr=>∃(j:Nat) (acc:List Ex) (lq:Bs) (zq:Int),j<=aA c/\i=.int .i64 j/\acc.length=j/\Hid (JL w0 rb 139 4 fQ bF w1 bA 2 acc lq zq wr/\q=(times one (aA c-j) lq zq).after acc)) (fun i _=>aA c-(intOf i).toNat)
 case atStart=>exact⟨0,[],_,_,Nat.zero_le _,rfl,rfl,QN.out,by rw[gq];exact HQ.out.symm⟩
 case round=>
  obtain⟨j,acc,lq,zq,hj,rfl,hacc,hR⟩:=hrel;subst hacc
  by_cases hjn:acc.length<aA c
  ·have hJ:=hR.out.1;obtain⟨⟨va,vn,vc⟩,hx3,hrow⟩:=hJ.row;obtain rfl:vn=acc.length:=by
    obtain⟨a,c,h⟩:=hrow.shape;cases h;rfl
   have hsz1:=hJ.fr.size;have l3:bA<wr.heap.size:=by omega
   have fx:wr.frozen? ⟨bA,2,none⟩=false:=(hJ.fz 2).trans zM;have HC:=hide (mg.out lq zq wr.drew (hJ.pw.fr (Fr.refl nothing wr).drew id (fun k e=>e.elim)));have HJ:=hide hJ;have HR:=hide hrow;have QO:=hide (jB one hjn lq zq);have zD:Hid ((one lq zq).z=0->acc.length+1+(one lq zq).l.length<=1500):=fun h0=>by
    by_cases hz:zq=0
    ·subst hz;have h1:=hJ.le rfl;have h2:=hless lq h0;omega
    ·exact absurd ((kJ lq zq hz).symm.trans h0) hz
   have frame:∀w',Fr (at_ rb) wr w'->w'.cell? ⟨bA,2,none⟩=some (.slice va acc.length vc):=fun w' hf=>(hf.cell (p:=⟨bA,2,none⟩) l3 (by show ¬bA=rb;omega)).trans hx3
   have fV:=hide frame;have QS:acc.length<=2:=by have:=j4 c;omega
   clear hJ hrow frame
   go_wp2_with fail
   refine aS (S:=fun w'=>w'.cell? ⟨bA,2,none⟩=some (.slice va acc.length vc)) (by kernel_rfl) [9] ?_ (fun hHeld=>?_)
   ·exact hx3
   refine bM 0 ?_
   refine bM 1 ?_
   refine bM 2 ?_
   refine bM 3 ?_
   refine bM 4 ?_
   refine jN 5 (fun K hK=>?_)
   refine aF rfl 80 Tryz.f80 #[.tmp 44,.tmp 46] #[109,3] rfl Tryz.func80 (by kernel_rfl) (by kernel_rfl) #[.pointer (some ⟨rb,0,none⟩),.int .i64 (d+1)] (by simp[Act.eval]) _ HC.out ?_
   rintro e w2 ⟨r,rfl,hF2,hP2,hx2⟩;have F2:Fr (at_ rb) wr w2:=((Fr.refl _ wr).drew).trans hF2;refine⟨_,rfl,hK.out _ _ (fV.out _ F2) ?_⟩
   clear hK K hHeld;have hHeld:=fV.out _ F2
   try simp only[Act.put,sA,sZ,sS]
   refine jN 6 (fun K hK=>?_)
   go_simp;refine hK.out _ _ (fV.out _ (F2.alloc _)) ?_
   clear hK K hHeld;have FA:Fr (at_ rb) wr (w2.alloc (.cells #[.int .i64 r.k,.int .i64 r.n,.string (bs r.t),.slice r.s.a r.s.n r.s.c] 139)):=F2.alloc _;have hHeld:=fV.out _ FA
   try simp only[Act.put,sA,sZ,sS]
   have PA:Pr rb (one lq zq).l (one lq zq).z (w2.alloc (.cells #[.int .i64 r.k,.int .i64 r.n,.string (bs r.t),.slice r.s.a r.s.n r.s.c] 139)):=hP2.fr ((Fr.refl nothing w2).alloc _) id;have XA:bF (w2.alloc (.cells #[.int .i64 r.k,.int .i64 r.n,.string (bs r.t),.slice r.s.a r.s.n r.s.c] 139)) (fun k=>wr.heap.size<=k/\k<(w2.alloc (.cells #[.int .i64 r.k,.int .i64 r.n,.string (bs r.t),.slice r.s.a r.s.n r.s.c] 139)).heap.size) r (one lq zq).v:=av _ _ nothing _ _ _ _ hx2 ((Fr.refl nothing w2).alloc _) (fun _ _=>id) (fun k hk=>⟨hk.1,by have:=hk.2;simp;omega⟩)
   have NW:∀j u,([.int .i64 r.k,.int .i64 r.n,.string (bs r.t),.slice r.s.a r.s.n r.s.c]:List Value)[j]?=some u->(w2.alloc (.cells #[.int .i64 r.k,.int .i64 r.n,.string (bs r.t),.slice r.s.a r.s.n r.s.c] 139)).cell? ((⟨w2.heap.size,0,none⟩:Addr).add j)=some u:=World.news_of_block (cs:=#[.int .i64 r.k,.int .i64 r.n,.string (bs r.t),.slice r.s.a r.s.n r.s.c]) (t:=139) (fr:=(0,0)) (bW _ _)
   have PW:Pw w0 rb (one lq zq).l (one lq zq).z (w2.alloc (.cells #[.int .i64 r.k,.int .i64 r.n,.string (bs r.t),.slice r.s.a r.s.n r.s.c] 139)):=HJ.out.pw.of PA (hsmall lq zq) FA;obtain⟨rs,hown,hbase,iD⟩:=HR.out;have bL:(w2.alloc (.cells #[.int .i64 r.k,.int .i64 r.n,.string (bs r.t),.slice r.s.a r.s.n r.s.c] 139)).ownsRow w1.heap.size 139 4 (.slice va acc.length vc) acc.length (rs.flatMap fQ):=aI hown FA (fun k hk e=>by have:=(hown.lt k hk).1;have:k=rb:=e;omega)
   have sQ:w1.heap.size<=(w2.alloc (.cells #[.int .i64 r.k,.int .i64 r.n,.string (bs r.t),.slice r.s.a r.s.n r.s.c] 139)).heap.size:=Nat.le_trans hsz1 FA.size;have OF:=bX bL (b:=bA) hbx;have gx:bA<(w2.alloc (.cells #[.int .i64 r.k,.int .i64 r.n,.string (bs r.t),.slice r.s.a r.s.n r.s.c] 139)).heap.size:=by omega
   have AV:(w2.alloc (.cells #[.int .i64 r.k,.int .i64 r.n,.string (bs r.t),.slice r.s.a r.s.n r.s.c] 139)).frozen? ⟨bA,2,none⟩=false:=(FA.frozen (p:=⟨bA,2,none⟩) l3 (by show ¬bA=rb;omega)).trans fx;have kN:=hide bL;have lC:=hide PW;have zG:=hide XA;have dL:=hide FA;clear iD hown bL PW XA FA PA;refine jN 7 (fun K hK=>?_)
   refine step_append_lies _ (by rfl) (.tmp 43) (.tmp 48) 134 (by rfl) w1.heap.size 139 j0 _ 4 56 Tryz.underlying134 hj0 hy0 hy1 hy2 rfl (by decide) (.slice va acc.length vc) acc.length _ (by simp[Act.eval]) kN.out ⟨w2.heap.size,0,none⟩ 1 1 [.int .i64 r.k,.int .i64 r.n,.string (bs r.t),.slice r.s.a r.s.n r.s.c] (by simp[Act.eval]) rfl NW (by simp[Value.oneCell']) (by decide) (by unfold maxLen;omega) (by omega) sQ _ rfl ?_
   intro g cp w6 dG gJ gL AY;have k3:w6.cell? ⟨bA,2,none⟩=some (.slice va acc.length vc):=(gJ.cell_far ⟨bA,2,none⟩ gx OF).trans hHeld;have kz:w6.frozen? ⟨bA,2,none⟩=false:=(gJ.frozen_far ⟨bA,2,none⟩ gx OF).trans AV;have k6:bA<w6.heap.size:=by have:=gJ.size;omega
   have sU:=hide dG;have qd:=hide gJ;have HAT:=hide gL;clear dG gJ gL NW;refine hK.out _ _ k3 ?_
   clear hK K hHeld;have hHeld:w6.cell? ⟨bA,2,none⟩=some (.slice va acc.length vc):=k3
   try simp only[Act.put,sA,sZ,sS]
   refine bM 8 ?_
   refine Al 9 (fun K hK=>?_)
   go_simp;refine hK.out _ _ ?_
   clear hK K
   try simp only[Act.put,sA,sZ,sS]
   refine wpAny_done (by kernel_rfl) ?_ _
   have QT:=hide (JL.Cb av dI hbx oP hne qX (us:=[.int .i64 r.k,.int .i64 r.n,.string (bs r.t),.slice r.s.a r.s.n r.s.c]) HJ.out HR.out dL.out lC.out zG.out zD.out kN.out sU.out qd.out HAT.out (Nat.le_refl _) rfl rfl k3 (.inr (.inr ⟨rfl,rfl⟩)))
   go_wp2
   go_roundw
   case rel=>exact⟨acc.length+1,acc++ [(one lq zq).v],_,_,by omega,by go_num,by simp,QT.out,by rw[hR.out.2,QO.out,dS]⟩
   case measure=>simp[intOf];omega
  ·have oV:aA c=acc.length:=by omega
   have hJ:=hR.out.1;have DW:q=⟨acc,lq,zq⟩:=by
    have:=hR.out.2;rw[oV,Nat.sub_self] at this;rw[this];simp[times,Rd.after]
   subst DW;clear oV;obtain⟨⟨va,vn,vc⟩,hx3,hrow⟩:=hJ.row;obtain⟨rs,k1,k2,k3⟩:=hrow.done av dI (B:=w1.heap.size) (Nat.le_refl _);have E8:nI fQ 4 bF w1.heap.size wr ⟨va,vn,vc⟩ acc:=⟨rs,k1,k2,k3⟩;have hsz1:=hJ.fr.size;have hB1:B5 bA (.int .i64 c) (.string (bs nm)) (.slice va vn vc) (.slice none 0 0) (.slice none 0 0) wr:=
    ⟨(hJ.old 0 (by decide)).trans HB1.out.c0,(hJ.old 1 (by decide)).trans HB1.out.c1,hx3,(hJ.old 3 (by decide)).trans HB1.out.c3,(hJ.old 4 (by decide)).trans HB1.out.c4,fun j=>(hJ.fz j).trans (HB1.out.f j),by omega⟩
   have A9:Fr (at_ rb) (w.alloc (.cells #[.int .i64 0,.string ⟨#[]⟩,.slice none 0 0,.slice none 0 0,.slice none 0 0] 136)) wr:=iy.out.then hJ.fr (fun j hj e=>by
    simp at hj
    rcases e with e|e
    ·exact e
    ·omega)
   have E9:=hJ.pw;have QU:=hide E8;have xY:=hide hB1;have fV:=hide A9;have lC:=hide E9;clear hR hx3 hrow k1 k2 k3 E8 hB1 A9 E9 hJ
   go_wp2_with (first
    |(go_at_call 54;refine(bR rb lq zq 41 _ lC.out.pr lC.out.len (by decide)).mono ?_;rintro e wz ⟨rfl,hp,hf⟩;have hfz:=fV.out.trans hf;obtain⟨y0,y1,y2,y3,y4,yf,yl⟩:=jw.out _ hfz;obtain⟨x0,x1,x2,x3,x4,xf,xl⟩:=xY.out.fr hf (by show ¬bA=rb;omega);have vC:=hide hp;have Uj:=hide (((Fr.refl (at_ rb) w).alloc _).trans hfz);have Uk:=hide (QU.out.fr av hf (fun k e=>by have:k=rb:=e;omega));clear hp hf hfz))
   refine bodyPost_ret (v:=sv ⟨c,nm,⟨va,vn,vc⟩,aN,aN⟩) (by simp[results,Tryz.results69,go_sem,y0,y1,y2,y3,y4,bs]) rfl ?_
   exact qZ (B:=w1.heap.size) hrb Uj.out vC.out rfl (by omega) Uk.out nI.nil nI.nil _ _ _ _ _
end
section
set_option maxHeartbeats 4000000 in
set_option maxRecDepth 20000 in
theorem Ul (w0:World) (rb:Nat) (l:Bs) (d:Int) (w:World) (h:Pw w0 rb l 0 w) (hd0:0<=d) (hd:d<=10) (one:Reader Ex) (hsmall:Small one) (hless:Less one) (kJ:gG one)
 (hone:∀l z w,Pw w0 rb l z w->Calls Tryz.prog 80 #[.pointer (some ⟨rb,0,none⟩),.int .i64 (d+1)] w (cO ev bF rb w (one l z)))
 (nest:Reader (List St)) (vG:∀l z w,Pw w0 rb l z w->Calls Tryz.prog 58 #[.pointer (some ⟨rb,0,none⟩),.int .i64 (d+1)] w (vF rb w (nest l z))) (Lf:Small nest)
 {l1 l2 v:Bs} {z1 z2:Int} (hm:must 40 l 0=⟨(),l1,z1⟩) (hw:word l1 z1=⟨v,l2,z2⟩) {c:Nat} (hc:kindOf v=c) (h3:c=3)
 {q:Rd (List Ex)} (hq:times one (aA c) l2 z2=q):
 Calls Tryz.prog 69 #[.pointer (some ⟨rb,0,none⟩),.int .i64 d] w (cO sv gy rb w ⟨.mk c [] q.v (fG nest 3 q.l q.z).v.1 (fG nest 3 q.l q.z).v.2,(fG nest 3 q.l q.z).l,(fG nest 3 q.l q.z).z⟩):=by
 have hrb:=h.pr.lt;have hge:=h.ge;have hF1:Fr nothing w (w.alloc (.cells #[.int .i64 0,.string ⟨#[]⟩,.slice none 0 0,.slice none 0 0,.slice none 0 0] 136)):=(Fr.refl _ w).alloc _;have jw:Hid (∀w',Fr (at_ rb) (w.alloc (.cells #[.int .i64 0,.string ⟨#[]⟩,.slice none 0 0,.slice none 0 0,.slice none 0 0] 136)) w'->B5 w.heap.size (.int .i64 0) (.string ⟨#[]⟩) (.slice none 0 0) (.slice none 0 0) (.slice none 0 0) w'):=fun w' hf=>(B5.made w _ _ _ _ _ 136).fr hf (by show ¬w.heap.size=rb;omega)
 have HD:=hide (dN rb l 0 d _ (h.pr.fr hF1 id));have e0:bE d 0=0:=by simp[bE];omega
 rw[e0] at HD;have hl:=h.len;have hl1:l1.length<=l.length:=by have:=aJ 40 l 0;rw[hm] at this;exact this
 have hl2:l2.length<=l1.length:=by have:=bU l1 z1;rw[hw] at this;exact this
 have hvl:v.length<=1500:=by
  have:v=(word l1 z1).v:=by rw[hw]
  rw[this];exact Nat.le_trans (List.takeWhile_sublist _).length_le (Nat.le_trans (aG _) (by omega))
 have zF:Hid (∀w',Pr rb l 0 w'->Calls Tryz.prog 54 #[.pointer (some ⟨rb,0,none⟩),.int .u8 40] w' fun r w''=>r=.returned (.tuple #[])/\Pr rb l1 z1 w''/\Fr (at_ rb) w' w''):=fun w' hp=>by
  have:=bR rb l 0 40 w' hp hl (by decide);rw[hm] at this;exact this
 have qO:Hid (∀w',Pr rb l1 z1 w'->Calls Tryz.prog 66 #[.pointer (some ⟨rb,0,none⟩)] w' fun e w''=>e=.returned (.string (bs v))/\Pr rb l2 z2 w''/\Fr (at_ rb) w' w''):=fun w' hp=>by
  have:=eU rb l1 z1 w' hp (by omega);rw[hw] at this;exact this
 have HH:=hide h;have mg:=hide hone;have HQ:=hide hq;have hwr:IntKind.i64.wrap (d+1)=d+1:=aO _ (by omega) (by omega);obtain⟨j0,hj0,hy0,hy1,hy2⟩:=info_parts qW;have i0:(0:Int)<=(c:Int):=by omega
 have i9:(c:Int)<10:=by omega
 have kK:c<10:=by omega
 have hg2:([.int .i64 0,.int .i64 1,.int .i64 1,.int .i64 1,.int .i64 1,.int .i64 1,.int .i64 1,.int .i64 2,.int .i64 2,.int .i64 1]:List Value)[c]'(by simp;omega)=.int .i64 (aA c):=by
  have:=bO c kK;rw[List.getElem?_toArray,List.getElem?_eq_getElem (by simp;omega)] at this
  exact Option.some.inj this
 have Lg:=hide vG;have HQL:Hid (q.l.length<=l.length):=by show q.l.length<=_;rw[<-hq];exact Nat.le_trans (nR hsmall _ _ _) (by omega)
 clear vG;have q0:¬(c:Int)=0:=by omega
 have p0:((c:Int)==0)=false:=by simpa using q0
 have q1:¬(c:Int)=1:=by omega
 have p1:((c:Int)==1)=false:=by simpa using q1
 have q2:¬(c:Int)=2:=by omega
 have p2:((c:Int)==2)=false:=by simpa using q2
 have q3:(c:Int)=3:=by omega
 have p3:((c:Int)==3)=true:=by simpa using q3
 clear q3;clear h3;clear h e0 hm hw hone hq hF1
 go_enter Tryz.func69,Tryz.ntmps69
 go_wp2_with (first
  |(go_at_call 79;refine HD.out.mono ?_;rintro e wd ⟨rfl,hp,hf⟩;have KF:=hide hp;have QI:=hide hf;clear hp hf)
  |(go_at_call 54;refine(zF.out _ KF.out).mono ?_;rintro e wm ⟨rfl,hp,hf⟩;have QJ:=hide hp;have Dv:=hide (QI.out.trans hf);clear hp hf)
  |(go_at_call 66;refine(qO.out _ QJ.out).mono ?_;rintro e w5 ⟨rfl,hp,hf⟩;have zK:=hide hp;have aX:=hide (Dv.out.trans hf);obtain⟨m1,m2,m3,m4,m5,m6,m7,m8,m9,r1,r2,r3,r4,r5,r6,r7,r8,r9,rl,hfm,hlm⟩:=jZ w5 v hvl;rw[hc] at rl;have hmm:=@run_makeMap Tryz.prog;have oU:=hide (aX.out.trans (gK hfm rb));have zL:=hide (hp.fr hfm id);have Ui:w.heap.size<m9.heap.size:=(by have:=oU.out.size;simp at this;omega);have hix:((m9.alloc (.cells #[.int .i64 c,.string ⟨#[]⟩,.slice none 0 0,.slice none 0 0,.slice none 0 0] 136)).alloc (.cells #[.int .i64 0,.int .i64 1,.int .i64 1,.int .i64 1,.int .i64 1,.int .i64 1,.int .i64 1,.int .i64 2,.int .i64 2,.int .i64 1] 3)).cell? ⟨m9.heap.size+1,c,none⟩=some (.int .i64 (aA c)):=(by first|(rw[World.cell?_alloc_new];exact bO c kK)|(rw[show m9.heap.size+1=(m9.alloc (.cells #[.int .i64 c,.string ⟨#[]⟩,.slice none 0 0,.slice none 0 0,.slice none 0 0] 136)).heap.size by first|(simp;done)|simp[World.setCell],World.cell?_alloc_new];exact bO c kK));clear hp hf hfm)
  )
 have QK:=hide (B5.made m9 (.int .i64 c) (.string (bs [])) (.slice none 0 0) (.slice none 0 0) (.slice none 0 0) 136);have BC:=hide (oU.out.alloc (.cells #[.int .i64 c,.string ⟨#[]⟩,.slice none 0 0,.slice none 0 0,.slice none 0 0] 136));have QL:=hide (zL.out.fr ((Fr.refl nothing m9).alloc (.cells #[.int .i64 c,.string ⟨#[]⟩,.slice none 0 0,.slice none 0 0,.slice none 0 0] 136)) id);have QM:Hid (w.heap.size<m9.heap.size):=Ui;have hB0:B5 m9.heap.size (.int .i64 c) (.string (bs [])) (.slice none 0 0) (.slice none 0 0) (.slice none 0 0) ((m9.alloc (.cells #[.int .i64 c,.string ⟨#[]⟩,.slice none 0 0,.slice none 0 0,.slice none 0 0] 136)).alloc (.cells #[.int .i64 0,.int .i64 1,.int .i64 1,.int .i64 1,.int .i64 1,.int .i64 1,.int .i64 1,.int .i64 2,.int .i64 2,.int .i64 1] 3)):=QK.out.fr (S:=nothing) ((Fr.refl nothing _).alloc _) id;have nC:Fr (at_ rb) (w.alloc (.cells #[.int .i64 0,.string ⟨#[]⟩,.slice none 0 0,.slice none 0 0,.slice none 0 0] 136)) ((m9.alloc (.cells #[.int .i64 c,.string ⟨#[]⟩,.slice none 0 0,.slice none 0 0,.slice none 0 0] 136)).alloc (.cells #[.int .i64 0,.int .i64 1,.int .i64 1,.int .i64 1,.int .i64 1,.int .i64 1,.int .i64 1,.int .i64 2,.int .i64 2,.int .i64 1] 3)):=BC.out.alloc _;have l9:Pw w0 rb l2 z2 ((m9.alloc (.cells #[.int .i64 c,.string ⟨#[]⟩,.slice none 0 0,.slice none 0 0,.slice none 0 0] 136)).alloc (.cells #[.int .i64 0,.int .i64 1,.int .i64 1,.int .i64 1,.int .i64 1,.int .i64 1,.int .i64 1,.int .i64 2,.int .i64 2,.int .i64 1] 3)):=HH.out.of (QL.out.fr ((Fr.refl nothing _).alloc _) id) (by omega) (((Fr.refl (at_ rb) w).alloc _).trans nC);have hJ0:JL w0 rb 139 4 fQ bF ((m9.alloc (.cells #[.int .i64 c,.string ⟨#[]⟩,.slice none 0 0,.slice none 0 0,.slice none 0 0] 136)).alloc (.cells #[.int .i64 0,.int .i64 1,.int .i64 1,.int .i64 1,.int .i64 1,.int .i64 1,.int .i64 1,.int .i64 2,.int .i64 2,.int .i64 1] 3)) m9.heap.size 2 [] l2 z2 ((m9.alloc (.cells #[.int .i64 c,.string ⟨#[]⟩,.slice none 0 0,.slice none 0 0,.slice none 0 0] 136)).alloc (.cells #[.int .i64 0,.int .i64 1,.int .i64 1,.int .i64 1,.int .i64 1,.int .i64 1,.int .i64 1,.int .i64 2,.int .i64 2,.int .i64 1] 3)):=
  {pw:=l9,fr:=Fr.refl _ _,fz:=fun _=>rfl,old:=fun _ _=>rfl,le:=fun _=>by have:=l9.len;simpa using this,row:=⟨aN,hB0.c2,Row.nil _ (Nat.le_refl _)⟩}
 have oP:rb<((m9.alloc (.cells #[.int .i64 c,.string ⟨#[]⟩,.slice none 0 0,.slice none 0 0,.slice none 0 0] 136)).alloc (.cells #[.int .i64 0,.int .i64 1,.int .i64 1,.int .i64 1,.int .i64 1,.int .i64 1,.int .i64 1,.int .i64 2,.int .i64 2,.int .i64 1] 3)).heap.size:=l9.pr.lt;have hbx:m9.heap.size<((m9.alloc (.cells #[.int .i64 c,.string ⟨#[]⟩,.slice none 0 0,.slice none 0 0,.slice none 0 0] 136)).alloc (.cells #[.int .i64 0,.int .i64 1,.int .i64 1,.int .i64 1,.int .i64 1,.int .i64 1,.int .i64 1,.int .i64 2,.int .i64 2,.int .i64 1] 3)).heap.size:=hB0.lt;have hbw:w.heap.size<m9.heap.size:=QM.out;have zM:=hB0.f 2;have qX:w0.heap.size<=m9.heap.size/\w0.heap.size<=((m9.alloc (.cells #[.int .i64 c,.string ⟨#[]⟩,.slice none 0 0,.slice none 0 0,.slice none 0 0] 136)).alloc (.cells #[.int .i64 0,.int .i64 1,.int .i64 1,.int .i64 1,.int .i64 1,.int .i64 1,.int .i64 1,.int .i64 2,.int .i64 2,.int .i64 1] 3)).heap.size:=⟨by omega,l9.vE.size⟩;have hne:m9.heap.size≠rb:=by omega
 have QN:=hide hJ0;have HB1:=hide hB0;have iy:=hide nC;clear hJ0 hB0 nC l9;generalize hw1:((m9.alloc (.cells #[.int .i64 c,.string ⟨#[]⟩,.slice none 0 0,.slice none 0 0,.slice none 0 0] 136)).alloc (.cells #[.int .i64 0,.int .i64 1,.int .i64 1,.int .i64 1,.int .i64 1,.int .i64 1,.int .i64 1,.int .i64 2,.int .i64 2,.int .i64 1] 3))=w1 at*;clear hw1;generalize hbs:m9.heap.size=bA at*;clear hbs
 go_loopw [40] (fun i wr=>∃(j:Nat) (acc:List Ex) (lq:Bs) (zq:Int),j<=aA c/\i=.int .i64 j/\acc.length=j/\Hid (JL w0 rb 139 4 fQ bF w1 bA 2 acc lq zq wr/\q=(times one (aA c-j) lq zq).after acc)) (fun i _=>aA c-(intOf i).toNat)
 case atStart=>exact⟨0,[],_,_,Nat.zero_le _,rfl,rfl,QN.out,by rw[gq];exact HQ.out.symm⟩
 case round=>
  obtain⟨j,acc,lq,zq,hj,rfl,hacc,hR⟩:=hrel;subst hacc
  by_cases hjn:acc.length<aA c
  ·have hJ:=hR.out.1;obtain⟨⟨va,vn,vc⟩,hx3,hrow⟩:=hJ.row;obtain rfl:vn=acc.length:=by
    obtain⟨a,c,h⟩:=hrow.shape;cases h;rfl
   have hsz1:=hJ.fr.size;have l3:bA<wr.heap.size:=by omega
   have fx:wr.frozen? ⟨bA,2,none⟩=false:=(hJ.fz 2).trans zM;have HC:=hide (mg.out lq zq wr.drew (hJ.pw.fr (Fr.refl nothing wr).drew id (fun k e=>e.elim)));have HJ:=hide hJ;have HR:=hide hrow;have QO:=hide (jB one hjn lq zq);have zD:Hid ((one lq zq).z=0->acc.length+1+(one lq zq).l.length<=1500):=fun h0=>by
    by_cases hz:zq=0
    ·subst hz;have h1:=hJ.le rfl;have h2:=hless lq h0;omega
    ·exact absurd ((kJ lq zq hz).symm.trans h0) hz
   have frame:∀w',Fr (at_ rb) wr w'->w'.cell? ⟨bA,2,none⟩=some (.slice va acc.length vc):=fun w' hf=>(hf.cell (p:=⟨bA,2,none⟩) l3 (by show ¬bA=rb;omega)).trans hx3
   have fV:=hide frame;have QS:acc.length<=2:=by have:=j4 c;omega
   clear hJ hrow frame
   go_wp2_with fail
   refine aS (S:=fun w'=>w'.cell? ⟨bA,2,none⟩=some (.slice va acc.length vc)) (by kernel_rfl) [9] ?_ (fun hHeld=>?_)
   ·exact hx3
   refine bM 0 ?_
   refine bM 1 ?_
   refine bM 2 ?_
   refine bM 3 ?_
   refine bM 4 ?_
   refine jN 5 (fun K hK=>?_)
   refine aF rfl 80 Tryz.f80 #[.tmp 44,.tmp 46] #[109,3] rfl Tryz.func80 (by kernel_rfl) (by kernel_rfl) #[.pointer (some ⟨rb,0,none⟩),.int .i64 (d+1)] (by simp[Act.eval]) _ HC.out ?_
   rintro e w2 ⟨r,rfl,hF2,hP2,hx2⟩;have F2:Fr (at_ rb) wr w2:=((Fr.refl _ wr).drew).trans hF2;refine⟨_,rfl,hK.out _ _ (fV.out _ F2) ?_⟩
   clear hK K hHeld;have hHeld:=fV.out _ F2
   try simp only[Act.put,sA,sZ,sS]
   refine jN 6 (fun K hK=>?_)
   go_simp;refine hK.out _ _ (fV.out _ (F2.alloc _)) ?_
   clear hK K hHeld;have FA:Fr (at_ rb) wr (w2.alloc (.cells #[.int .i64 r.k,.int .i64 r.n,.string (bs r.t),.slice r.s.a r.s.n r.s.c] 139)):=F2.alloc _;have hHeld:=fV.out _ FA
   try simp only[Act.put,sA,sZ,sS]
   have PA:Pr rb (one lq zq).l (one lq zq).z (w2.alloc (.cells #[.int .i64 r.k,.int .i64 r.n,.string (bs r.t),.slice r.s.a r.s.n r.s.c] 139)):=hP2.fr ((Fr.refl nothing w2).alloc _) id;have XA:bF (w2.alloc (.cells #[.int .i64 r.k,.int .i64 r.n,.string (bs r.t),.slice r.s.a r.s.n r.s.c] 139)) (fun k=>wr.heap.size<=k/\k<(w2.alloc (.cells #[.int .i64 r.k,.int .i64 r.n,.string (bs r.t),.slice r.s.a r.s.n r.s.c] 139)).heap.size) r (one lq zq).v:=av _ _ nothing _ _ _ _ hx2 ((Fr.refl nothing w2).alloc _) (fun _ _=>id) (fun k hk=>⟨hk.1,by have:=hk.2;simp;omega⟩)
   have NW:∀j u,([.int .i64 r.k,.int .i64 r.n,.string (bs r.t),.slice r.s.a r.s.n r.s.c]:List Value)[j]?=some u->(w2.alloc (.cells #[.int .i64 r.k,.int .i64 r.n,.string (bs r.t),.slice r.s.a r.s.n r.s.c] 139)).cell? ((⟨w2.heap.size,0,none⟩:Addr).add j)=some u:=World.news_of_block (cs:=#[.int .i64 r.k,.int .i64 r.n,.string (bs r.t),.slice r.s.a r.s.n r.s.c]) (t:=139) (fr:=(0,0)) (bW _ _)
   have PW:Pw w0 rb (one lq zq).l (one lq zq).z (w2.alloc (.cells #[.int .i64 r.k,.int .i64 r.n,.string (bs r.t),.slice r.s.a r.s.n r.s.c] 139)):=HJ.out.pw.of PA (hsmall lq zq) FA;obtain⟨rs,hown,hbase,iD⟩:=HR.out;have bL:(w2.alloc (.cells #[.int .i64 r.k,.int .i64 r.n,.string (bs r.t),.slice r.s.a r.s.n r.s.c] 139)).ownsRow w1.heap.size 139 4 (.slice va acc.length vc) acc.length (rs.flatMap fQ):=aI hown FA (fun k hk e=>by have:=(hown.lt k hk).1;have:k=rb:=e;omega)
   have sQ:w1.heap.size<=(w2.alloc (.cells #[.int .i64 r.k,.int .i64 r.n,.string (bs r.t),.slice r.s.a r.s.n r.s.c] 139)).heap.size:=Nat.le_trans hsz1 FA.size;have OF:=bX bL (b:=bA) hbx;have gx:bA<(w2.alloc (.cells #[.int .i64 r.k,.int .i64 r.n,.string (bs r.t),.slice r.s.a r.s.n r.s.c] 139)).heap.size:=by omega
   have AV:(w2.alloc (.cells #[.int .i64 r.k,.int .i64 r.n,.string (bs r.t),.slice r.s.a r.s.n r.s.c] 139)).frozen? ⟨bA,2,none⟩=false:=(FA.frozen (p:=⟨bA,2,none⟩) l3 (by show ¬bA=rb;omega)).trans fx;have kN:=hide bL;have lC:=hide PW;have zG:=hide XA;have dL:=hide FA;clear iD hown bL PW XA FA PA;refine jN 7 (fun K hK=>?_)
   refine step_append_lies _ (by rfl) (.tmp 43) (.tmp 48) 134 (by rfl) w1.heap.size 139 j0 _ 4 56 Tryz.underlying134 hj0 hy0 hy1 hy2 rfl (by decide) (.slice va acc.length vc) acc.length _ (by simp[Act.eval]) kN.out ⟨w2.heap.size,0,none⟩ 1 1 [.int .i64 r.k,.int .i64 r.n,.string (bs r.t),.slice r.s.a r.s.n r.s.c] (by simp[Act.eval]) rfl NW (by simp[Value.oneCell']) (by decide) (by unfold maxLen;omega) (by omega) sQ _ rfl ?_
   intro g cp w6 dG gJ gL AY;have k3:w6.cell? ⟨bA,2,none⟩=some (.slice va acc.length vc):=(gJ.cell_far ⟨bA,2,none⟩ gx OF).trans hHeld;have kz:w6.frozen? ⟨bA,2,none⟩=false:=(gJ.frozen_far ⟨bA,2,none⟩ gx OF).trans AV;have k6:bA<w6.heap.size:=by have:=gJ.size;omega
   have sU:=hide dG;have qd:=hide gJ;have HAT:=hide gL;clear dG gJ gL NW;refine hK.out _ _ k3 ?_
   clear hK K hHeld;have hHeld:w6.cell? ⟨bA,2,none⟩=some (.slice va acc.length vc):=k3
   try simp only[Act.put,sA,sZ,sS]
   refine bM 8 ?_
   refine Al 9 (fun K hK=>?_)
   go_simp;refine hK.out _ _ ?_
   clear hK K
   try simp only[Act.put,sA,sZ,sS]
   refine wpAny_done (by kernel_rfl) ?_ _
   have QT:=hide (JL.Cb av dI hbx oP hne qX (us:=[.int .i64 r.k,.int .i64 r.n,.string (bs r.t),.slice r.s.a r.s.n r.s.c]) HJ.out HR.out dL.out lC.out zG.out zD.out kN.out sU.out qd.out HAT.out (Nat.le_refl _) rfl rfl k3 (.inr (.inr ⟨rfl,rfl⟩)))
   go_wp2
   go_roundw
   case rel=>exact⟨acc.length+1,acc++ [(one lq zq).v],_,_,by omega,by go_num,by simp,QT.out,by rw[hR.out.2,QO.out,dS]⟩
   case measure=>simp[intOf];omega
  ·have oV:aA c=acc.length:=by omega
   have hJ:=hR.out.1;have DW:q=⟨acc,lq,zq⟩:=by
    have:=hR.out.2;rw[oV,Nat.sub_self] at this;rw[this];simp[times,Rd.after]
   subst DW;clear oV;obtain⟨⟨va,vn,vc⟩,hx3,hrow⟩:=hJ.row;obtain⟨rs,k1,k2,k3⟩:=hrow.done av dI (B:=w1.heap.size) (Nat.le_refl _);have E8:nI fQ 4 bF w1.heap.size wr ⟨va,vn,vc⟩ acc:=⟨rs,k1,k2,k3⟩;have hsz1:=hJ.fr.size;have hB1:B5 bA (.int .i64 c) (.string (bs [])) (.slice va vn vc) (.slice none 0 0) (.slice none 0 0) wr:=
    ⟨(hJ.old 0 (by decide)).trans HB1.out.c0,(hJ.old 1 (by decide)).trans HB1.out.c1,hx3,(hJ.old 3 (by decide)).trans HB1.out.c3,(hJ.old 4 (by decide)).trans HB1.out.c4,fun j=>(hJ.fz j).trans (HB1.out.f j),by omega⟩
   have A9:Fr (at_ rb) (w.alloc (.cells #[.int .i64 0,.string ⟨#[]⟩,.slice none 0 0,.slice none 0 0,.slice none 0 0] 136)) wr:=iy.out.then hJ.fr (fun j hj e=>by
    simp at hj
    rcases e with e|e
    ·exact e
    ·omega)
   have E9:=hJ.pw;have QU:=hide E8;have xY:=hide hB1;have fV:=hide A9;have lC:=hide E9;clear hR hx3 hrow k1 k2 k3 E8 hB1 A9 E9 hJ;obtain⟨a1,ha1⟩:∃a,must 40 lq zq=a:=⟨_,rfl⟩
   obtain⟨n1,hn1⟩:∃a,nest a1.l a1.z=a:=⟨_,rfl⟩
   obtain⟨a2,ha2⟩:∃a,must 40 n1.l n1.z=a:=⟨_,rfl⟩
   obtain⟨n2,hn2⟩:∃a,nest a2.l a2.z=a:=⟨_,rfl⟩
   obtain⟨a3,ha3⟩:∃a,must 41 n2.l n2.z=a:=⟨_,rfl⟩
   have s1:a1.l.length<=lq.length:=ha1▸aJ 40 lq zq;have s2:n1.l.length<=a1.l.length:=hn1▸Lf a1.l a1.z;have s3:a2.l.length<=n1.l.length:=ha2▸aJ 40 n1.l n1.z;have s4:n2.l.length<=a2.l.length:=hn2▸Lf a2.l a2.z;have M1:Hid (∀w',Pr rb lq zq w'->Calls Tryz.prog 54 #[.pointer (some ⟨rb,0,none⟩),.int .u8 40] w' fun r w''=>r=.returned (.tuple #[])/\Pr rb a1.l a1.z w''/\Fr (at_ rb) w' w''):=fun w' hp=>ha1▸bR rb lq zq 40 w' hp lC.out.len (by decide)
   have M2:Hid (∀w',Pr rb n1.l n1.z w'->Calls Tryz.prog 54 #[.pointer (some ⟨rb,0,none⟩),.int .u8 40] w' fun r w''=>r=.returned (.tuple #[])/\Pr rb a2.l a2.z w''/\Fr (at_ rb) w' w''):=fun w' hp=>ha2▸bR rb n1.l n1.z 40 w' hp (by have:=lC.out.len;omega) (by decide)
   have M3:Hid (∀w',Pr rb n2.l n2.z w'->Calls Tryz.prog 54 #[.pointer (some ⟨rb,0,none⟩),.int .u8 41] w' fun r w''=>r=.returned (.tuple #[])/\Pr rb a3.l a3.z w''/\Fr (at_ rb) w' w''):=fun w' hp=>ha3▸bR rb n2.l n2.z 41 w' hp (by have:=lC.out.len;omega) (by decide)
   have N1:Hid (∀w',Pw w0 rb a1.l a1.z w'->Calls Tryz.prog 58 #[.pointer (some ⟨rb,0,none⟩),.int .i64 (d+1)] w' (vF rb w' n1)):=fun w' hp=>hn1▸Lg.out a1.l a1.z w' hp
   have N2:Hid (∀w',Pw w0 rb a2.l a2.z w'->Calls Tryz.prog 58 #[.pointer (some ⟨rb,0,none⟩),.int .i64 (d+1)] w' (vF rb w' n2)):=fun w' hp=>hn2▸Lg.out a2.l a2.z w' hp
   have hRR:Hid (fG nest 3 lq zq=⟨(n1.v,n2.v),a3.l,a3.z⟩):=by
    show fG nest 3 lq zq=_
    unfold fG;simp only[if_true,ha1,hn1,ha2,hn2,ha3]
   clear ha1 hn1 ha2 hn2 ha3;have hbr:¬bA=rb:=by omega
   go_wp2_with (first
    |(go_at_call 58;first
     |(refine(N2.out _ PW5.out).mono ?_;rintro e wf ⟨⟨ea,en,ec⟩,rfl,hf,hp,hn,hls⟩;have bg:=hide (aX.out.trans hf);have hB:=HB5.out.fr hf (by show ¬bA=rb;omega);have QX:=hide hB;obtain⟨x0,x1,x2,x3,x4,xf,xl⟩:=hB;have xf4:=xf 4;have Cc:=hide hp;have qd:=hide (HG5.out.fr av hf (fun k e=>by have:k=rb:=e;omega));have HT6:=hide (HT5.out.fr aT hf (fun k e=>by have:k=rb:=e;omega));have HE6:=hide (nI.since aT (B:=we.heap.size) (B':=w1.heap.size) (show nI encS 5 gy we.heap.size wf ⟨ea,en,ec⟩ n2.v from hls) (by omega));have hszf:=hf.size;clear hp hf hls hn xf)
     |(refine(N1.out _ PW2.out).mono ?_;rintro e wc ⟨⟨ta,tn,tc⟩,rfl,hf,hp,hn,hls⟩;have dX:=hide (bq.out.trans hf);have hB:=HB2.out.fr hf (by show ¬bA=rb;omega);have HB3:=hide hB;obtain⟨x0,x1,x2,x3,x4,xf,xl⟩:=hB;have xf3:=xf 3;have Qv:=hide hp;have HG3:=hide (HG2.out.fr av hf (fun k e=>by have:k=rb:=e;omega));have HT3:=hide (nI.since aT (B:=wb.heap.size) (B':=w1.heap.size) (show nI encS 5 gy wb.heap.size wc ⟨ta,tn,tc⟩ n1.v from hls) (by omega));have abW:=hf.size;clear hp hf hls hn xf))
    |(go_at_call 54;first
     |(refine(M3.out (wf.setCell ⟨bA,4,none⟩ (.slice ea en ec)) (Cc.out.fr ((Fr.refl (fun k=>k=bA) wf).setCell (p:=⟨bA,4,none⟩) (.inl rfl) _) (by show ¬rb=bA;omega))).mono ?_;rintro e wz ⟨rfl,hp,hf⟩;have hs6:Fr (fun k=>k=bA) wf (wf.setCell ⟨bA,4,none⟩ (.slice ea en ec)):=(Fr.refl (fun k=>k=bA) wf).setCell (p:=⟨bA,4,none⟩) (.inl rfl) _;have dH:=hide ((bg.out.setCell (p:=⟨bA,4,none⟩) (.inr (by show(w.alloc _).heap.size<=bA;simp;omega)) _).trans hf);obtain⟨y0,y1,y2,y3,y4,yf,yl⟩:=jw.out _ dH.out;have hB:=(QX.out.acs (.slice ea en ec)).fr hf (by show ¬bA=rb;omega);obtain⟨x0,x1,x2,x3,x4,xf,xl⟩:=hB;have yf0:=yf 0;have yf1:=yf 1;have yf2:=yf 2;have yf3:=yf 3;have yf4:=yf 4;have Du:=hide hp;have HG7:=hide ((qd.out.fr av hs6 (fun k e=>by omega)).fr av hf (fun k e=>by have:k=rb:=e;omega));have HT7:=hide ((HT6.out.fr aT hs6 (fun k e=>by omega)).fr aT hf (fun k e=>by have:k=rb:=e;omega));have HE7:=hide ((HE6.out.fr aT hs6 (fun k e=>by omega)).fr aT hf (fun k e=>by have:k=rb:=e;omega));clear hp hf xf yf hs6)
     |(refine(M2.out (wc.setCell ⟨bA,3,none⟩ (.slice ta tn tc)) (Qv.out.fr ((Fr.refl (fun k=>k=bA) wc).setCell (p:=⟨bA,3,none⟩) (.inl rfl) _) (by show ¬rb=bA;omega))).mono ?_;rintro e we ⟨rfl,hp,hf⟩;have hs3:Fr (fun k=>k=bA) wc (wc.setCell ⟨bA,3,none⟩ (.slice ta tn tc)):=(Fr.refl (fun k=>k=bA) wc).setCell (p:=⟨bA,3,none⟩) (.inl rfl) _;have aX:=hide ((dX.out.setCell (p:=⟨bA,3,none⟩) (.inr (by show(w.alloc _).heap.size<=bA;simp;omega)) _).trans hf);have HB5:=hide ((HB3.out.QH (.slice ta tn tc)).fr hf (by show ¬bA=rb;omega));have PW5:=hide (HH.out.of hp (by have h9:lq.length<=l.length:=HQL.out;omega) (((Fr.refl (at_ rb) w).alloc _).trans aX.out));have HG5:=hide ((HG3.out.fr av hs3 (fun k e=>by omega)).fr av hf (fun k e=>by have:k=rb:=e;omega));have HT5:=hide ((HT3.out.fr aT hs3 (fun k e=>by omega)).fr aT hf (fun k e=>by have:k=rb:=e;omega));have hsze:w1.heap.size<=we.heap.size:=(by have:=hf.size;simp[World.setCell] at this;omega);clear hp hf hs3)
     |(refine(M1.out _ lC.out.pr).mono ?_;rintro e wb ⟨rfl,hp,hf⟩;have bq:=hide (fV.out.trans hf);have HB2:=hide (xY.out.fr hf (by show ¬bA=rb;omega));have PW2:=hide (HH.out.of hp (by have h9:lq.length<=l.length:=HQL.out;omega) (((Fr.refl (at_ rb) w).alloc _).trans bq.out));have HG2:=hide (QU.out.fr av hf (fun k e=>by have:k=rb:=e;omega));have hszb:w1.heap.size<=wb.heap.size:=(Nat.le_trans hsz1 hf.size);clear hp hf)))
   refine bodyPost_ret (v:=sv ⟨c,[],⟨va,vn,vc⟩,⟨ta,tn,tc⟩,⟨ea,en,ec⟩⟩) (by simp[results,Tryz.results69,go_sem,y0,y1,y2,y3,y4,bs]) rfl ?_
   simp only[hRR.out];exact qZ (B:=w1.heap.size) hrb (((Fr.refl (at_ rb) w).alloc _).trans dH.out) Du.out rfl (by omega) HG7.out HT7.out HE7.out _ _ _ _ _
end
end Go.Proofs.YtbcadjgpcfmkfaaGreatDoor
