/- FNew; GFlow; GStep. -/
import Derived.Test.YtbcadjgpcfmkfaaGreatDoorPartU9
import Derived.Test.YtbcadjgpcfmkfaaGreatDoorPartU1
set_option maxHeartbeats 0
set_option maxRecDepth 100000
set_option linter.unusedSimpArgs false
namespace Go.Proofs.YtbcadjgpcfmkfaaGreatDoor
open Go Go.RowKit
section
def CZ (vV:Int) (p:Pz) (n:Nat) (fuel cells hops:Int):Ag:=⟨vV,0,p,[⟨0,0,List.replicate n v0,[]⟩],[],fuel,cells,hops⟩
theorem Ep:(Tryz.prog.info? 53).map (fun i=>(i.zero,i.size,i.bytes))=some (some (.agg #[.int .i64 0,.int .i64 0,.string ⟨#[]⟩]),3,32):=by kernel_rfl
theorem GR:(madeCells (Value.cells (.agg #[.int .i64 0,.int .i64 0,.string ⟨#[]⟩])) (0*3)).toList=(List.replicate 0 v0).flatMap aP:=by kernel_rfl
theorem GU:(madeCells (Value.cells (.agg #[.int .i64 0,.int .i64 0,.string ⟨#[]⟩])) (1*3)).toList=(List.replicate 1 v0).flatMap aP:=by kernel_rfl
theorem GV:(madeCells (Value.cells (.agg #[.int .i64 0,.int .i64 0,.string ⟨#[]⟩])) (2*3)).toList=(List.replicate 2 v0).flatMap aP:=by kernel_rfl
theorem GX:(madeCells (Value.cells (.agg #[.int .i64 0,.int .i64 0,.string ⟨#[]⟩])) (3*3)).toList=(List.replicate 3 v0).flatMap aP:=by kernel_rfl
theorem GY:(madeCells (Value.cells (.agg #[.int .i64 0,.int .i64 0,.string ⟨#[]⟩])) (4*3)).toList=(List.replicate 4 v0).flatMap aP:=by kernel_rfl
theorem GZ:(madeCells (Value.cells (.agg #[.int .i64 0,.int .i64 0,.string ⟨#[]⟩])) (5*3)).toList=(List.replicate 5 v0).flatMap aP:=by kernel_rfl
theorem G5:(madeCells (Value.cells (.agg #[.int .i64 0,.int .i64 0,.string ⟨#[]⟩])) (6*3)).toList=(List.replicate 6 v0).flatMap aP:=by kernel_rfl
theorem G6:(madeCells (Value.cells (.agg #[.int .i64 0,.int .i64 0,.string ⟨#[]⟩])) (7*3)).toList=(List.replicate 7 v0).flatMap aP:=by kernel_rfl
theorem G7:(madeCells (Value.cells (.agg #[.int .i64 0,.int .i64 0,.string ⟨#[]⟩])) (8*3)).toList=(List.replicate 8 v0).flatMap aP:=by kernel_rfl
theorem Bt (n:Nat) (hn:n<=8):(madeCells (Value.cells (.agg #[.int .i64 0,.int .i64 0,.string ⟨#[]⟩])) (n*3)).toList=(List.replicate n v0).flatMap aP:=
 match n,hn with
 |0,_=>GR
 |1,_=>GU
 |2,_=>GV
 |3,_=>GX
 |4,_=>GY
 |5,_=>GZ
 |6,_=>G5
 |7,_=>G6
 |8,_=>G7
theorem dD {w:World} {b n j:Nat} {f:Nat->Value} {v:Value} (h:∀i,i<n->w.cell? ⟨b,i,none⟩=some (f i)) (hj:j<n):∀i,i<n->(w.setCell ⟨b,j,none⟩ v).cell? ⟨b,i,none⟩=some (if i=j then v else f i):=by
 intro i hi
 by_cases e:i=j
 ·subst e;rw[if_pos rfl];exact World.cell?_setCell_same _ _ _ (h i hi)
 ·rw[if_neg e,World.cell?_setCell_other _ ⟨b,j,none⟩ ⟨b,i,none⟩ _ (by simp only[ne_eq,Addr.mk.injEq,not_and];omega)];exact h i hi
theorem Aw {w:World} {b:Nat} {f:Nat->Value} (x0 x1 x2 x3 x4 x5 x6 x7 x8:Value) (h:∀i,i<9->w.cell? ⟨b,i,none⟩=some (f i)):
 ∃w5,((((((((w.setCell ⟨b,0,none⟩ x0).setCell ⟨b,1,none⟩ x1).setCell ⟨b,2,none⟩ x2).setCell ⟨b,3,none⟩ x3).setCell ⟨b,4,none⟩ x4).setCell ⟨b,5,none⟩ x5).setCell ⟨b,6,none⟩ x6).setCell ⟨b,7,none⟩ x7).setCell ⟨b,8,none⟩ x8=w5/\
  (w5.cell? ⟨b,0,none⟩=some x0/\w5.cell? ⟨b,1,none⟩=some x1/\w5.cell? ⟨b,2,none⟩=some x2/\w5.cell? ⟨b,3,none⟩=some x3/\w5.cell? ⟨b,4,none⟩=some x4)/\(w5.cell? ⟨b,5,none⟩=some x5/\w5.cell? ⟨b,6,none⟩=some x6/\w5.cell? ⟨b,7,none⟩=some x7/\w5.cell? ⟨b,8,none⟩=some x8)/\Fr (fun k=>k=b) w w5:=by
 have h0:=dD (v:=x0) h (j:=0) (by decide);have h1:=dD (v:=x1) h0 (j:=1) (by decide);have h2:=dD (v:=x2) h1 (j:=2) (by decide);have h3:=dD (v:=x3) h2 (j:=3) (by decide);have h4:=dD (v:=x4) h3 (j:=4) (by decide);have h5:=dD (v:=x5) h4 (j:=5) (by decide);have h6:=dD (v:=x6) h5 (j:=6) (by decide);have h7:=dD (v:=x7) h6 (j:=7) (by decide);have h8:=dD (v:=x8) h7 (j:=8) (by decide);refine⟨_,rfl,⟨h8 0 (by decide),h8 1 (by decide),h8 2 (by decide),h8 3 (by decide),h8 4 (by decide)⟩,⟨h8 5 (by decide),h8 6 (by decide),h8 7 (by decide),h8 8 (by decide)⟩,?_⟩
 exact(((((((((Fr.refl (fun k=>k=b) w).setCell (p:=⟨b,0,none⟩) (.inl rfl) _).setCell (p:=⟨b,1,none⟩) (.inl rfl) _).setCell (p:=⟨b,2,none⟩) (.inl rfl) _).setCell (p:=⟨b,3,none⟩) (.inl rfl) _).setCell (p:=⟨b,4,none⟩) (.inl rfl) _).setCell (p:=⟨b,5,none⟩) (.inl rfl) _).setCell (p:=⟨b,6,none⟩) (.inl rfl) _).setCell (p:=⟨b,7,none⟩) (.inl rfl) _).setCell (p:=⟨b,8,none⟩) (.inl rfl) _
theorem Ty (vV:Int) (p:Pz) (n:Nat) (fuel cells hops:Int) (sc sw:ai) (w:World) (hP:iq w sc sw p) (hn:n<=8) (h0:(p.cs[0]?).map Cz.nv=some (n:Int)):
 Calls Tryz.prog 26 #[.int .i64 vV,.agg #[.slice sc.a sc.n sc.c,.slice sw.a sw.n sw.c],.agg #[.int .i64 fuel,.int .i64 cells,.int .i64 hops]] w fun e w'=>∃sf:ai,e=.returned (.agg (gH (CZ vV p n fuel cells hops) sc sw sf aN))/\Fr nothing w w'/\iK w' sc sw sf aN (CZ vV p n fuel cells hops):=by
 obtain⟨x,hx,Oz⟩:=Option.map_eq_some_iff.1 h0;have Tz:=hide hP;obtain⟨⟨rs,hrs,kM⟩,hws⟩:=hP;obtain⟨n1,m1⟩:=ay hrs;rw[kM.1] at n1 m1;obtain⟨Es,scn,scc⟩:=sc;simp only at n1;subst n1;have hl:0<p.cs.length:=by
  rcases Nat.eq_zero_or_pos p.cs.length with h|h
  ·rw[List.length_eq_zero_iff.1 h] at hx;cases hx
  ·exact h
 obtain⟨r,hr⟩:∃r,rs[0]?=some r:=⟨_,List.getElem?_eq_getElem (by rw[kM.1];exact hl)⟩
 have hok:=kM.2 0 r x hr hx;obtain⟨g,o,e1,dg,u0,u1,u2⟩:=fB (s:=⟨Es,p.cs.length,scc⟩) hrs hr;simp only at e1;subst e1;rw[hok.nv,Oz] at u1;have FA:Fr nothing w (w.alloc (.cells #[.slice (some ⟨g,o,none⟩) p.cs.length scc,.slice sw.a sw.n sw.c] 25)):=(Fr.refl _ _).alloc _;obtain⟨w1,hw1⟩:∃x,x=w.alloc (.cells #[.slice (some ⟨g,o,none⟩) p.cs.length scc,.slice sw.a sw.n sw.c] 25):=⟨_,rfl⟩
 rw[<-hw1] at FA;have FB:Fr nothing w1 (w1.alloc (.cells #[.int .i64 fuel,.int .i64 cells,.int .i64 hops] 29)):=(Fr.refl _ _).alloc _;obtain⟨w2,hw2⟩:∃x,x=w1.alloc (.cells #[.int .i64 fuel,.int .i64 cells,.int .i64 hops] 29):=⟨_,rfl⟩
 rw[<-hw2] at FB;have FC:Fr nothing w2 (w2.alloc (.cells #[.int .i64 0,.int .i64 0,.slice none 0 0,.slice none 0 0,.slice none 0 0,.slice none 0 0,.int .i64 0,.int .i64 0,.int .i64 0] 31)):=(Fr.refl _ _).alloc _;obtain⟨w3,hw3⟩:∃x,x=w2.alloc (.cells #[.int .i64 0,.int .i64 0,.slice none 0 0,.slice none 0 0,.slice none 0 0,.slice none 0 0,.int .i64 0,.int .i64 0,.int .i64 0] 31):=⟨_,rfl⟩
 rw[<-hw3] at FC;have z1:w1.heap.size=w.heap.size+1:=by rw[hw1];simp
 have z2:w2.heap.size=w.heap.size+1+1:=by rw[hw2];simp[z1]
 have z3:w3.heap.size=w.heap.size+1+1+1:=by rw[hw3];simp[z2]
 have ma:=af (w:=w) (cs:=#[.slice (some ⟨g,o,none⟩) p.cs.length scc,.slice sw.a sw.n sw.c]) (t:=25) (w1:=w3) (S:=nothing) (by rw[<-hw1];exact FB.trans FC) id;have mb:=af (w:=w1) (cs:=#[.int .i64 fuel,.int .i64 cells,.int .i64 hops]) (t:=29) (w1:=w3) (S:=nothing) (by rw[<-hw2];exact FC) id
 have mc:=af (w:=w2) (cs:=#[.int .i64 0,.int .i64 0,.slice none 0 0,.slice none 0 0,.slice none 0 0,.slice none 0 0,.int .i64 0,.int .i64 0,.int .i64 0]) (t:=31) (w1:=w3) (S:=nothing) (by rw[<-hw3];exact Fr.refl _ _) id;rw[z1] at mb;rw[z2] at mc;have F3:=(FA.trans FB).trans FC;have p0:=ma.1 0;have p1:=ma.1 1;have q0:=mb.1 0;have q1:=mb.1 1;have q2:=mb.1 2;have t1:=(F3.cell (p:=⟨g,_,none⟩) dg id).trans u1;have tl:=Nat.lt_of_lt_of_le dg F3.size;have pQ:=hw1.symm;have e2':=hw2.symm;have e3':=hw3.symm;have HMC:=hide mc;have dX:=hide F3;clear hok hr hx hrs kM hws FA FB FC ma mb mc F3 u0 u1 u2 hw1 hw2 hw3 m1 h0 Oz;simp only[Nat.zero_mul,Nat.add_zero] at t1;obtain⟨j0,hj0,hy0,hy1,hy2⟩:=info_parts Ep
 go_enter Tryz.func26,Tryz.ntmps26
 go_wp2_with fail
 refine wp_region_held_drew (S:=fun w'=>(w'.cell? ⟨w.heap.size,0,none⟩=some (.slice (some ⟨g,o,none⟩) p.cs.length scc)/\w'.cell? ⟨w.heap.size,1,none⟩=some (.slice sw.a sw.n sw.c))/\(w'.cell? ⟨w.heap.size+1,0,none⟩=some (.int .i64 fuel)/\w'.cell? ⟨w.heap.size+1,1,none⟩=some (.int .i64 cells)/\w'.cell? ⟨w.heap.size+1,2,none⟩=some (.int .i64 hops))/\w'.cell? ⟨g,o+1,none⟩=some (.int .i64 (n:Int))) (by kernel_rfl) ?_ (fun hHeld=>?_)
 ·exact⟨⟨p0,p1⟩,⟨q0,q1,q2⟩,t1⟩
 refine tk 0 ?_
 refine tk 1 ?_
 refine tk 2 ?_
 refine tk 3 ?_
 refine tk 4 ?_
 refine tk 5 ?_
 refine tk 6 ?_
 refine tk 7 ?_
 refine iP 8 (fun K hK=>?_)
 go_simp;have hmk:=run_make (P:=Tryz.prog) w3.drew 49 53 j0 _ Tryz.underlying49 hj0 hy0 .i64 .i64 (n:Int) (n:Int) (by omega) (by omega) (by rw[hy2];omega) (by omega)
 rw[hmk]
 go_simp;have jW:Fr nothing w3 (w3.alloc (.cells (madeCells #[.int .i64 0,.int .i64 0,.string ⟨#[]⟩] (n*3)) 53)).drew:=((Fr.refl _ _).alloc _).drew;have hov:Own aP 53 3 0 ⟨some ⟨w3.heap.size,0,none⟩,n,n⟩ (List.replicate n v0) (w3.alloc (.cells (madeCells #[.int .i64 0,.int .i64 0,.string ⟨#[]⟩] (n*3)) 53)):=by
  have:=Own.lit (enc:=aP) (T:=53) (base:=0) w3 (madeCells #[.int .i64 0,.int .i64 0,.string ⟨#[]⟩] (n*3)) (List.replicate n v0) (Bt n hn) aK (Nat.zero_le _) (by rw[List.length_replicate];unfold maxLen;omega);rw[List.length_replicate] at this;exact this
 rw[z3] at hov;have hsv:=(hov.new ((Fr.refl nothing _).drew)).sl aK;have z4:(w3.alloc (.cells (madeCells #[.int .i64 0,.int .i64 0,.string ⟨#[]⟩] (n*3)) 53)).drew.heap.size=w.heap.size+1+1+1+1:=by simp[World.drew,z3]
 generalize(w3.alloc (.cells (madeCells #[.int .i64 0,.int .i64 0,.string ⟨#[]⟩] (n*3)) 53)).drew=w4 at*;have lH:∀w6:World,Fr nothing w3 w6->(w6.cell? ⟨w.heap.size,0,none⟩=some (.slice (some ⟨g,o,none⟩) p.cs.length scc)/\w6.cell? ⟨w.heap.size,1,none⟩=some (.slice sw.a sw.n sw.c))/\(w6.cell? ⟨w.heap.size+1,0,none⟩=some (.int .i64 fuel)/\w6.cell? ⟨w.heap.size+1,1,none⟩=some (.int .i64 cells)/\w6.cell? ⟨w.heap.size+1,2,none⟩=some (.int .i64 hops))/\w6.cell? ⟨g,o+1,none⟩=some (.int .i64 (n:Int)):=fun w6 hf=>
  ⟨⟨(hf.cell (p:=⟨w.heap.size,0,none⟩) (lt_of_cell p0) id).trans p0,(hf.cell (p:=⟨w.heap.size,1,none⟩) (lt_of_cell p1) id).trans p1⟩,⟨(hf.cell (p:=⟨w.heap.size+1,0,none⟩) (lt_of_cell q0) id).trans q0,(hf.cell (p:=⟨w.heap.size+1,1,none⟩) (lt_of_cell q1) id).trans q1,(hf.cell (p:=⟨w.heap.size+1,2,none⟩) (lt_of_cell q2) id).trans q2⟩,(hf.cell (p:=⟨g,o+1,none⟩) tl id).trans t1⟩
 refine hK _ _ (lH _ jW) (fun _=>?_)
 clear hK K hHeld
 try simp only[Act.put,sA,sZ,sS]
 have hHeld:=lH _ jW;refine tk 9 ?_
 refine iP 10 (fun K hK=>?_)
 go_simp;have jd:Fr nothing w4 (w4.alloc (.cells #[.int .i64 0,.int .i64 0,.slice (some ⟨w.heap.size+1+1+1,0,none⟩) n n,.slice none 0 0] 51)):=(Fr.refl _ _).alloc _;have YW:Sl lU 4 (w4.alloc (.cells #[.int .i64 0,.int .i64 0,.slice (some ⟨w.heap.size+1+1+1,0,none⟩) n n,.slice none 0 0] 51)) (ai.v ⟨some ⟨w4.heap.size,0,none⟩,1,1⟩) [⟨0,0,⟨some ⟨w.heap.size+1+1+1,0,none⟩,n,n⟩,aN⟩]:=xK (T:=51) w4 _ _ rfl;rw[z4] at YW;refine hK _ _ (lH _ (jW.trans jd)) (fun _=>?_)
 clear hK K hHeld
 try simp only[Act.put,sA,sZ,sS]
 have hHeld:=lH _ (jW.trans jd);refine tk 11 ?_
 generalize w4.alloc (.cells #[.int .i64 0,.int .i64 0,.slice (some ⟨w.heap.size+1+1+1,0,none⟩) n n,.slice none 0 0] 51)=w5 at*;have TA:=jW.trans jd;have hlc:∀i,i<9->w5.cell? ⟨w.heap.size+1+1,i,none⟩=some ((#[.int .i64 0,.int .i64 0,.slice none 0 0,.slice none 0 0,.slice none 0 0,.slice none 0 0,.int .i64 0,.int .i64 0,.int .i64 0]:Array Value).getD i (.int .i64 0)):=fun i hi=>by
  rw[TA.cell (p:=⟨w.heap.size+1+1,i,none⟩) HMC.out.2.2 id,HMC.out.1 i]
  match i,hi with
  |0,_|1,_|2,_|3,_|4,_|5,_|6,_|7,_|8,_=>rfl
 have hfz:∀i,w5.frozen? ⟨w.heap.size+1+1,i,none⟩=false:=fun i=>(TA.frozen (p:=⟨w.heap.size+1+1,i,none⟩) HMC.out.2.2 id).trans (HMC.out.2.1 i)
 have y0:=hlc 0 (by decide);have y1:=hlc 1 (by decide);have y2:=hlc 2 (by decide);have y3:=hlc 3 (by decide);have y4:=hlc 4 (by decide);have y5:=hlc 5 (by decide);have y6:=hlc 6 (by decide);have y7:=hlc 7 (by decide);have y8:=hlc 8 (by decide);obtain⟨w6,nK,cA,cB,fK⟩:=Aw (.int .i64 vV) (.int .i64 0) (.slice (some ⟨g,o,none⟩) p.cs.length scc) (.slice sw.a sw.n sw.c) (.slice (some ⟨w.heap.size+1+1+1+1,0,none⟩) 1 1) (.slice none 0 0) (.int .i64 fuel) (.int .i64 cells) (.int .i64 hops) hlc;have Et:Fr (fun k=>k=w.heap.size+1+1) w3 w6:=(TA.mono (fun _ _ e=>e.elim)).trans fK;refine iP 12 (fun K hK=>?_)
 go_simp
 try rw[nK]
 have G8:(w6.cell? ⟨w.heap.size,0,none⟩=some (.slice (some ⟨g,o,none⟩) p.cs.length scc)/\w6.cell? ⟨w.heap.size,1,none⟩=some (.slice sw.a sw.n sw.c))/\(w6.cell? ⟨w.heap.size+1,0,none⟩=some (.int .i64 fuel)/\w6.cell? ⟨w.heap.size+1,1,none⟩=some (.int .i64 cells)/\w6.cell? ⟨w.heap.size+1,2,none⟩=some (.int .i64 hops))/\w6.cell? ⟨g,o+1,none⟩=some (.int .i64 (n:Int)):=
  ⟨⟨(Et.cell (p:=⟨w.heap.size,0,none⟩) (lt_of_cell p0) (by intro e;have e':w.heap.size=w.heap.size+1+1:=e;omega)).trans p0,(Et.cell (p:=⟨w.heap.size,1,none⟩) (lt_of_cell p1) (by intro e;have e':w.heap.size=w.heap.size+1+1:=e;omega)).trans p1⟩,⟨(Et.cell (p:=⟨w.heap.size+1,0,none⟩) (lt_of_cell q0) (by intro e;have e':w.heap.size+1=w.heap.size+1+1:=e;omega)).trans q0,(Et.cell (p:=⟨w.heap.size+1,1,none⟩) (lt_of_cell q1) (by intro e;have e':w.heap.size+1=w.heap.size+1+1:=e;omega)).trans q1,(Et.cell (p:=⟨w.heap.size+1,2,none⟩) (lt_of_cell q2) (by intro e;have e':w.heap.size+1=w.heap.size+1+1:=e;omega)).trans q2⟩,(Et.cell (p:=⟨g,o+1,none⟩) tl (by intro e;have e':g=w.heap.size+1+1:=e;omega)).trans t1⟩
 refine hK _ _ G8 (fun _=>?_)
 clear hK K hHeld
 try simp only[Act.put,sA,sZ,sS]
 have hHeld:=G8;refine wpAnyH_done (by kernel_rfl) ?_ _
 have qy:Fr nothing w w6:=dX.out.then Et (fun j hj e=>by omega);have hnb:∀k,(fun k=>k=w.heap.size+1+1) k->k=w.heap.size+1+1:=fun _ e=>e
 have ZU:Hid (Sl lU 4 w6 (ai.v ⟨some ⟨w.heap.size+1+1+1+1,0,none⟩,1,1⟩) [⟨0,0,⟨some ⟨w.heap.size+1+1+1,0,none⟩,n,n⟩,aN⟩]):=YW.fr fK (fun k hk e=>by
  obtain⟨ao,n',c',e1,e2⟩:=hk;simp only[Value.slice.injEq,Option.some.injEq] at e1;rw[<-e1.1] at e2;simp only at e2;omega)
 have HSV:Hid (Sl aP 3 w6 (ai.v ⟨some ⟨w.heap.size+1+1+1,0,none⟩,n,n⟩) (List.replicate n v0)):=(hsv.fr jd (fun _ _=>id)).fr fK (fun k hk e=>by
  obtain⟨ao,n',c',e1,e2⟩:=hk;simp only[Value.slice.injEq,Option.some.injEq] at e1;rw[<-e1.1] at e2;simp only at e2;omega)
 have Mf:=hide qy;have HCA:=hide (And.intro cA cB);clear hHeld lH G8 jW jd fK TA Et hsv YW hov cA cB y0 y1 y2 y3 y4 y5 y6 y7 y8 hlc hfz hmk nK qy hnb
 go_wp2_with fail
 obtain⟨⟨c0,c1,c2,c3,c4⟩,c5,c6,c7,c8⟩:=HCA.out;exact bodyPost_ret (v:=.agg #[.int .i64 vV,.int .i64 0,.slice (some ⟨g,o,none⟩) p.cs.length scc,.slice sw.a sw.n sw.c,.slice (some ⟨w.heap.size+1+1+1+1,0,none⟩) 1 1,.slice none 0 0,.int .i64 fuel,.int .i64 cells,.int .i64 hops]) (by simp[results,Tryz.results26,go_sem,c0,c1,c2,c3,c4,c5,c6,c7,c8]) rfl ⟨⟨some ⟨w.heap.size+1+1+1+1,0,none⟩,1,1⟩,rfl,Mf.out,Tz.out.fr Mf.out,⟨_,ZU.out,rfl,fun i r x e1 e2=>by
  have hi:i=0:=by have:=(List.getElem?_eq_some_iff.1 e1).1;simp at this;omega
  subst hi;simp[CZ] at e1 e2
  subst e1 e2;exact⟨rfl,rfl,HSV.out,gN _ _ _⟩⟩,gN _ _ _⟩
end
section
def mC (ins:List In) (p:Nat) (n:Int):Int:=n-(aC (ins.getD p uw)).1+(aC (ins.getD p uw)).2
def Opn (ins:List In) (h:List Int) (q:List (Int×Int)):Prop:=
 ∀(p:Nat) (n:Int),h[p]?=some n->0<=n->
  (aC (ins.getD p uw)).1<=n/\((ins.getD p uw).op=18->n<=1)/\mC ins p n<=16/\
  ∀z∈jg (ins.getD p uw) p (mC ins p n),(0<=z.1/\h[z.1.toNat]?=some z.2)\/z∈q
theorem OA (i:In) (p m:Int):(jg i p m).length<=2:=by
 unfold jg;rw[List.length_append];split<;>split<;>simp
theorem C9 (ins:List In):∀(f:Nat) (h:List Int) (q:List (Int×Int)),(vM ins f h q).2=0->2*rZ h+q.length<f->(∀z∈q,0<=z.2)->Opn ins h q->Opn ins (vM ins f h q).1 []
 |0,h,q,_,hf,_,_=>by omega
 |f+1,h,[],_,_,_,ho=>by rw[vM];exact ho
 |f+1,h,(p,n)::q,e,hf,hq,ho=>by
  rw[vM] at e⊢;split at e
  ·cases e
  rename_i h1
  rw[if_neg h1];split at e
  ·cases e
  rename_i h2
  rw[if_neg h2];have hlt:p.toNat<h.length:=by omega
  have hgp:h[p.toNat]?=some (h.getD p.toNat 0):=by simp[List.getD,List.getElem?_eq_getElem hlt]
  have hn:0<=n:=hq (p,n) (by simp);split at e
  ·rename_i h3
   rw[if_pos h3];have hpn:h.getD p.toNat 0=n:=Classical.byContradiction fun hne=>h2 ⟨h3,hne⟩;rw[hpn] at hgp;refine C9 ins f h q e (by simp only[List.length_cons] at hf;omega) (fun z hz=>hq z (by simp[hz])) (fun p' n' hp' hn'=>?_)
   obtain⟨o1,o2,o3,o4⟩:=ho p' n' hp' hn';refine⟨o1,o2,o3,fun z hz=>?_⟩
   rcases o4 z hz with o|o
   ·exact .inl o
   ·rcases List.mem_cons.1 o with o|o
    ·subst o;exact .inl ⟨by show 0<=p;omega,hgp⟩
    ·exact .inr o
  rename_i h3
  rw[if_neg h3];split at e
  ·cases e
  rename_i h4
  rw[if_neg h4];split at e
  ·cases e
  rename_i h5
  rw[if_neg h5];have hu:=uq h p.toNat _ n hgp (by omega) hn;have ht:=OA (ins.getD p.toNat ⟨0,0,0⟩) p (n-(aC (ins.getD p.toNat ⟨0,0,0⟩)).1+(aC (ins.getD p.toNat ⟨0,0,0⟩)).2);have hs:=lV (ins.getD p.toNat ⟨0,0,0⟩);have hpp:((p.toNat:Nat):Int)=p:=by omega
  refine C9 ins f _ _ e (by simp only[List.length_append,List.length_cons] at hf⊢;omega) (fun z hz=>?_) (fun p' n' hp' hn'=>?_)
  ·rcases List.mem_append.1 hz with hz|hz
   ·exact hq z (by simp[hz])
   ·rw[xJ z hz];omega
  ·by_cases hpe:p.toNat=p'
   ·subst hpe;rw[List.getElem?_set_self hlt] at hp';obtain rfl:=Option.some.inj hp';refine⟨by have:¬n<(aC (ins.getD p.toNat uw)).1:=fun hh=>h4 (.inl hh);omega,fun abO=>by have:¬1<n:=fun hh=>h4 (.inr ⟨abO,hh⟩);omega,by show n-(aC (ins.getD p.toNat ⟨0,0,0⟩)).1+(aC (ins.getD p.toNat ⟨0,0,0⟩)).2<=16;omega,fun z hz=> .inr (List.mem_append.2 (.inr ?_))⟩
    rw[hpp] at hz;exact hz
   ·rw[List.getElem?_set_ne hpe] at hp';obtain⟨o1,o2,o3,o4⟩:=ho p' n' hp' hn';refine⟨o1,o2,o3,fun z hz=>?_⟩
    have hz2:0<=z.2:=by
     rw[xJ z hz];have:=lV (ins.getD p' uw);unfold mC;omega
    rcases o4 z hz with o|o
    ·refine .inl ⟨o.1,?_⟩
     by_cases hzp:p.toNat=z.1.toNat
     ·exfalso
      rw[<-hzp,hgp] at o;have:=Option.some.inj o.2;omega
     ·rw[List.getElem?_set_ne hzp];exact o.2
    ·rcases List.mem_cons.1 o with o|o
     ·subst o;exact .inl ⟨by show 0<=p;omega,List.getElem?_set_self hlt⟩
     ·exact .inr (List.mem_append.2 (.inl o))
theorem Db {ins:List In} (e:(aj ins).2=0) {p:Nat} {n:Int} (hp:(aj ins).1[p]?=some n) (hn:0<=n):
 (aC (ins.getD p uw)).1<=n/\((ins.getD p uw).op=18->n<=1)/\mC ins p n<=16/\
 ∀z∈jg (ins.getD p uw) p (mC ins p n),0<=z.1/\(aj ins).1[z.1.toNat]?=some z.2:=by
 have hO:Opn ins (aj ins).1 []:=by
  refine C9 ins _ _ _ e ?_ (fun z hz=>by rw[List.mem_singleton.1 hz];exact Int.le_refl 0) (fun p n hp hn=>?_)
  ·have:=Ei (List.replicate ins.length (-1:Int));rw[List.length_replicate] at this;simp only[List.length_singleton];omega
  ·have:=(List.mem_replicate.1 (List.mem_of_getElem? hp)).2;omega
 obtain⟨o1,o2,o3,o4⟩:=hO p n hp hn;exact⟨o1,o2,o3,fun z hz=>(o4 z hz).resolve_right (by simp)⟩
theorem ku {ins:List In} (e:(aj ins).2=0):(aj ins).1.length=ins.length:=by
 have:=vU ins (2*ins.length+2) (List.replicate ins.length (-1)) [(0,0)] e;rw[List.length_replicate] at this;exact this
end
section
structure Sp where
 name:Bs
 facts:List (Bs×Val)
structure Ev where
 k:Int
 t:Bs
 e:Int
abbrev dB:Ev:=⟨0,[],0⟩
abbrev bQ (e:Int):Ev:=⟨5,[],e⟩
def si (n:Int):Val:=⟨0,n.tmod 1073741825,[]⟩
def ji (t:Bs):Val:=⟨1,0,t.take 60⟩
def qI (b:Bool):Val:=⟨0,if b then 1 else 0,[]⟩
def jG (a b:Val):Bool:=a.k==b.k&&a.n==b.n&&a.t==b.t
def xM (a b:Bs):Bool:=Op.bytesLess a b
def iN (op:Int) (a b:Val):Val×Int:=
 if op<1\/5<op then(v0,1)
 else if op=5 then(qI (jG a b),0)
 else if a.k=1/\b.k=1 then(if op=1 then(ji (a.t++b.t),0) else if op=4 then(qI (xM a.t b.t),0) else(v0,11))
 else if a.k≠0\/b.k≠0 then(v0,11)
 else if op=1 then(si (a.n+b.n),0)
 else if op=2 then(si (a.n-b.n),0)
 else if op=3 then(si (a.n*b.n),0)
 else(qI (decide (a.n<b.n)),0)
abbrev c0:aV:=⟨v0,v0⟩
def Bu (itoa:Int->Bs) (h:List aV):Nat->Val->Bs
 |d,v=>
  if v.k=0 then itoa v.n
  else if v.k=1 then v.t
  else match d with
   |0=> [46,46]
   |d+1=>if v.n<0\/h.length<=v.n then[46,46] else[40]++Bu itoa h d (h.getD v.n.toNat c0).l++ [32]++Bu itoa h d (h.getD v.n.toNat c0).r++ [41]
def jk (l:List (Bs×Val)) (k:Bs):Val:=((l.find? fun x=>x.1==k).map Prod.snd).getD v0
def bT (f:Fm) (v:Val):Fm:={f with stack:=f.stack++ [v]}
def bI (a:Ag) (f:Fm):Ag:={a with fr:=a.fr.dropLast++ [f]}
def nD (a:Ag):Fm:=a.fr.getLastD Ar
def uA (a:Ag) (f:Fm):In:=(a.pg.cs.getD f.fn.toNat xI).ins.getD f.at_.toNat uw
abbrev KN (a:Ag) (v:Val):aV:=a.hp.getD v.n.toNat c0
def opC (sh:List aV->Val->Bs) (a:Ag) (s:Sp) (f:Fm) (i:In) (x:List Val):Ag×Ev:=
 if i.op=1 then(bI a (bT f ⟨0,i.a,[]⟩),dB)
 else if i.op=2 then(bI a (bT f (ji (a.pg.ws.getD i.a.toNat []))),dB)
 else if i.op=3 then(bI a (bT f (f.vars.getD i.a.toNat v0)),dB)
 else if i.op=12 then(bI a (bT f (ji s.name)),dB)
 else if i.op=4 then(bI a {f with vars:=f.vars.set i.a.toNat (x.getD 0 v0)},dB)
 else if i.op=5 then(if(iN i.a (x.getD 0 v0) (x.getD 1 v0)).2≠0 then(bI a f,bQ (iN i.a (x.getD 0 v0) (x.getD 1 v0)).2) else(bI a (bT f (iN i.a (x.getD 0 v0) (x.getD 1 v0)).1),dB))
 else if i.op=6 then(if a.cells<1 then(bI a f,bQ 13) else(bI {a with cells:=a.cells-1,hp:=a.hp++ [⟨x.getD 0 v0,x.getD 1 v0⟩]} (bT f ⟨2,a.hp.length,[]⟩),dB))
 else if i.op=7\/i.op=8\/i.op=9\/i.op=10 then
  (if(x.getD 0 v0).k≠2 then(bI a f,bQ 11)
  else if i.op=7 then(bI a (bT f (KN a (x.getD 0 v0)).l),dB)
  else if i.op=8 then(bI a (bT f (KN a (x.getD 0 v0)).r),dB)
  else if i.op=9 then(bI {a with hp:=a.hp.set (x.getD 0 v0).n.toNat ⟨x.getD 1 v0,(KN a (x.getD 0 v0)).r⟩} f,dB)
  else(bI {a with hp:=a.hp.set (x.getD 0 v0).n.toNat ⟨(KN a (x.getD 0 v0)).l,x.getD 1 v0⟩} f,dB))
 else if i.op=11 then(if(x.getD 0 v0).k≠1 then(bI a f,bQ 11) else(bI a (bT f (jk s.facts (x.getD 0 v0).t)),dB))
 else if i.op=13 then(if(x.getD 0 v0).k≠1 then(bI a f,bQ 11) else if 0<a.hops then(bI {a with hops:=a.hops-1} f,⟨3,(x.getD 0 v0).t,0⟩) else(bI a (bT f v0),dB))
 else if i.op=14 then(bI a f,⟨2,sh a.hp (x.getD 0 v0),0⟩)
 else if i.op=15 then(bI a {f with at_:=i.a},dB)
 else if i.op=16 then(bI a (if jG (x.getD 0 v0) v0 then{f with at_:=i.a} else f),dB)
 else if i.op=17 then
  (if 12<=a.fr.length then(bI a {f with stack:=f.stack++x},bQ 9)
  else({a with fr:=a.fr.dropLast++ [f]++ [⟨i.a,0,x++List.replicate ((a.pg.cs.getD i.a.toNat xI).nv.toNat-x.length) v0,[]⟩]},dB))
 else if i.op=18 then
  (if a.fr.dropLast=[] then({a with fr:=[]},⟨4,sh a.hp (x.getD 0 v0),0⟩)
  else({a with fr:=a.fr.dropLast.dropLast++ [bT (a.fr.dropLast.getLastD Ar) (x.getD 0 v0)]},dB))
 else(bI a f,dB)
def ou (a:Ag) (f:Fm):Nat:=f.stack.length-(aC (uA a f)).1.toNat
def jS (sh:List aV->Val->Bs) (a:Ag) (s:Sp):Ag×Ev:=
 if a.fuel=0 then(a,bQ 12)
 else opC sh {a with fuel:=a.fuel-1} s {nD a with at_:=(nD a).at_+1,stack:=(nD a).stack.take (ou a (nD a))} (uA a (nD a)) ((nD a).stack.drop (ou a (nD a)))
def Dc (a:Ag) (n:Int):Ag:=bI a (bT (nD a) ⟨0,n,[]⟩)
def eB (m:Int) (f:Fm):Prop:=(∀v∈f.vars,ah m v=0)/\∀v∈f.stack,ah m v=0
def nE (p:Pz) (m:Int) (pre:List Fm) (n:Int):Prop:=
 ∀k g,pre[k]?=some g->frameC p g (17,(pre.map Fm.fn++ [n]).getD (k+1) 0)=0/\eB m g
abbrev Vy (away:Bool):Int×Int:=if away then(13,0) else(0,0)
structure ZV (a:Ag) (away:Bool) (pre:List Fm) (f:Fm):Prop where
 fr:a.fr=pre++ [f]
 pg:aU a.pg=0
 ct:fq a=0
 pr:nE a.pg a.hp.length pre f.fn
 tp:frameC a.pg f (Vy away)=0
 vs:eB a.hp.length f
 hp:∀c∈a.hp,cellC a.hp.length c=0
theorem kX {a:Ag} {away:Bool} {k:Nat}:dV a away k=0↔frameC a.pg (a.fr.getD k Ar) (jh a k away)=0/\eB a.hp.length (a.fr.getD k Ar):=by
 unfold dV eB;constructor
 ·intro h;split at h
  ·rename_i h1;exact absurd h h1
  rename_i h1
  split at h
  ·rename_i h2;exact absurd h h2
  rename_i h2
  exact⟨Classical.not_not.1 h1,dw (Classical.not_not.1 h2),dw h⟩
 ·rintro⟨h1,h2,h3⟩;rw[h1,if_neg (by simp),mX h2,if_neg (by simp),mX h3]
theorem gQ {m:Int} {c:aV}:cellC m c=0↔ah m c.l=0/\ah m c.r=0:=by
 unfold cellC;constructor
 ·intro h;split at h
  ·rename_i h1;exact absurd h h1
  rename_i h1
  exact⟨Classical.not_not.1 h1,h⟩
 ·rintro⟨h1,h2⟩;rw[h1,if_neg (by simp),h2]
theorem vg {a:Ag} {away:Bool}:dx a away=0↔aU a.pg=0/\fq a=0/\(∀k,k<a.fr.length->dV a away k=0)/\∀c∈a.hp,cellC a.hp.length c=0:=by
 unfold dx;constructor
 ·intro h;split at h
  ·rename_i h1;exact absurd h h1
  rename_i h1
  split at h
  ·rename_i h2;exact absurd h h2
  rename_i h2
  split at h
  ·rename_i h3;exact absurd h h3
  rename_i h3
  exact⟨Classical.not_not.1 h1,Classical.not_not.1 h2,fun k hk=>ve (Classical.not_not.1 h3) k (Nat.zero_le _) (by omega),dw h⟩
 ·rintro⟨h1,h2,h3,h4⟩;rw[h1,if_neg (by simp),h2,if_neg (by simp),xH (fun j _ hj=>h3 j (by omega)),if_neg (by simp),mX h4]
theorem WV {pre:List Fm} {f:Fm} {k:Nat} (hk:k<pre.length):(pre.map Fm.fn++ [f.fn]).getD (k+1) 0=((pre++ [f]).getD (k+1) Ar).fn:=by
 rw[show pre.map Fm.fn++ [f.fn]=(pre++ [f]).map Fm.fn by simp];simp only[List.getD_eq_getElem?_getD,List.getElem?_map];have:k+1<(pre++ [f]).length:=by simp;omega
 rw[List.getElem?_eq_getElem this];rfl
theorem xN {a:Ag} {away:Bool} {pre:List Fm} {f:Fm} (h:a.fr=pre++ [f]):dx a away=0↔ZV a away pre f:=by
 have hlen:a.fr.length=pre.length+1:=by rw[h];simp
 have hg:∀k,k<pre.length->a.fr.getD k Ar=pre.getD k Ar:=fun k hk=>by
  rw[h];simp only[List.getD_eq_getElem?_getD];rw[List.getElem?_append_left hk]
 have hgl:a.fr.getD pre.length Ar=f:=by rw[h];simp[List.getD_eq_getElem?_getD]
 have hwl:jh a pre.length away=Vy away:=by
  unfold jh;rw[if_neg (by omega)]
 have hw:∀k,k<pre.length->jh a k away=(17,(pre.map Fm.fn++ [f.fn]).getD (k+1) 0):=fun k hk=>by
  unfold jh;rw[if_pos (by omega),WV hk,h]
 rw[vg];constructor
 ·rintro⟨h1,h2,h3,h4⟩;refine⟨h,h1,h2,fun k g hk=>?_,?_,?_,h4⟩
  ·have hkl:=(List.getElem?_eq_some_iff.1 hk).1;have:=kX.1 (h3 k (by omega));rw[hg k hkl,hw k hkl,show pre.getD k Ar=g by simp[List.getD_eq_getElem?_getD,hk]] at this;exact this
  ·have:=kX.1 (h3 pre.length (by omega));rw[hgl,hwl] at this;exact this.1
  ·have:=kX.1 (h3 pre.length (by omega));rw[hgl] at this;exact this.2
 ·rintro⟨-,h1,h2,h3,h4,h5,h6⟩;refine⟨h1,h2,fun k hk=>kX.2 ?_,h6⟩
  by_cases hkl:k<pre.length
  ·rw[hg k hkl,hw k hkl];exact h3 k _ (by simp[List.getD_eq_getElem?_getD,List.getElem?_eq_getElem hkl])
  ·obtain rfl:k=pre.length:=by omega
   rw[hgl,hwl];exact⟨h4,h5⟩
theorem qz {a:Ag} {away:Bool} (h:dx a away=0):∃pre f,ZV a away pre f:=by
 have hc:=(vg.1 h).2.1;have hne:a.fr≠ []:=by
  intro e;unfold fq at hc;rw[e] at hc;split at hc
  ·cases hc
  split at hc
  ·cases hc
  rw[if_pos (.inl rfl)] at hc;cases hc
 have:=(List.dropLast_concat_getLast hne).symm;exact⟨_,_,(xN this).1 h⟩
structure FrV (p:Pz) (f:Fm) (c:Cz):Prop where
 fn:0<=f.fn
 cd:p.cs[f.fn.toNat]?=some c
 OB:0<=f.at_
 YX:f.at_<c.ins.length
 vars:(f.vars.length:Int)=c.nv
theorem eZ {p:Pz} {f:Fm} {q:Int×Int}:frameC p f q=0↔∃c,FrV p f c/\(q.1≠0->f.at_≠0/\bN c (f.at_.toNat-1)≠-1/\(c.ins.getD (f.at_.toNat-1) uw).op=q.1/\(c.ins.getD (f.at_.toNat-1) uw).a=q.2)/\(f.stack.length:Int)=bN c f.at_.toNat-(if q.1≠0 then 1 else 0):=by
 constructor
 ·intro h;rw[lW p f q rfl] at h
  by_cases h1:f.fn<0\/(p.cs.length:Int)<=f.fn
  ·rw[if_pos h1] at h;cases h
  rw[if_neg h1] at h
  by_cases h2:f.at_<0\/((p.cs.getD f.fn.toNat xI).ins.length:Int)<=f.at_\/(f.vars.length:Int)≠(p.cs.getD f.fn.toNat xI).nv
  ·rw[if_pos h2] at h;cases h
  rw[if_neg h2] at h
  by_cases h3:q.1≠0/\(f.at_=0\/bN (p.cs.getD f.fn.toNat xI) (f.at_.toNat-1)=-1\/((p.cs.getD f.fn.toNat xI).ins.getD (f.at_.toNat-1) uw).op≠q.1\/((p.cs.getD f.fn.toNat xI).ins.getD (f.at_.toNat-1) uw).a≠q.2)
  ·rw[if_pos h3] at h;cases h
  rw[if_neg h3] at h
  by_cases h4:(f.stack.length:Int)≠bN (p.cs.getD f.fn.toNat xI) f.at_.toNat-(if q.1≠0 then 1 else 0)
  ·rw[if_pos h4] at h;cases h
  have hl:f.fn.toNat<p.cs.length:=by omega
  have hc:p.cs[f.fn.toNat]?=some (p.cs.getD f.fn.toNat xI):=by simp[List.getD_eq_getElem?_getD,List.getElem?_eq_getElem hl]
  refine⟨p.cs.getD f.fn.toNat xI,⟨by omega,hc,by omega,by omega,Classical.not_not.1 fun hne=>h2 (.inr (.inr hne))⟩,fun hq=>?_,Classical.not_not.1 h4⟩
  refine⟨fun e=>h3 ⟨hq,.inl e⟩,fun e=>h3 ⟨hq,.inr (.inl e)⟩,Classical.not_not.1 fun e=>h3 ⟨hq,.inr (.inr (.inl e))⟩,Classical.not_not.1 fun e=>h3 ⟨hq,.inr (.inr (.inr e))⟩⟩
 ·rintro⟨c,⟨h1,h2,h3,h4,h5⟩,h6,h7⟩;have hl:=(List.getElem?_eq_some_iff.1 h2).1;rw[lW p f q (c:=c) (by simp[List.getD_eq_getElem?_getD,h2]),if_neg (by omega),if_neg (fun e=>e.elim (by omega) (fun e=>e.elim (by omega) (fun e=>e h5))),if_neg ?_,if_neg (fun e=>e h7)];rintro⟨hq,e⟩;obtain⟨k1,k2,k3,k4⟩:=h6 hq;rcases e with e|e|e|e
  ·exact k1 e
  ·exact k2 e
  ·exact e k3
  ·exact e k4
theorem gZ {c:Cz} {n:Nat} {x:Int} (h:(aj c.ins).1[n]?=some x):bN c n=x:=by simp[bN,List.getD,h]
theorem Eu {c:Cz} {n:Nat} {x:Int} (h:bN c n=x) (hx:0<=x):(aj c.ins).1[n]?=some x:=by
 unfold bN at h;rw[List.getD_eq_getElem?_getD] at h;cases hg:(aj c.ins).1[n]? with
 |none=>rw[hg] at h;simp at h;omega
 |some y=>rw[hg] at h;simp at h;rw[h]
theorem uB {p:Pz} (h:aU p=0) {c:Cz} (hc:c∈p.cs):(∀i∈c.ins,CX p c i=0)/\(aj c.ins).2=0/\0<=c.np/\c.np<=c.nv/\c.ins.length≠0:=by
 unfold aU at h;split at h
 ·rename_i h1;exact absurd h h1
 rename_i h1
 have hz:=iR (Classical.not_not.1 h1);have h2:=dw h c hc;unfold iQ at h2;split at h2
 ·rename_i h3;exact absurd h2 h3
 rename_i h3
 have hb:=hz.2.2.2.2.2 c hc;exact⟨dw (Classical.not_not.1 h3),h2,hb.1,hb.2.2.1,hb.2.2.2.2.1⟩
theorem sj {p:Pz} {c:Cz} {i:In} (h:CX p c i=0):1<=i.op/\i.op<=19/\DR i.op<=i.a/\i.a<=DT p c i.op/\i.b=bC p i:=by
 unfold CX at h;split at h
 ·cases h
 split at h
 ·cases h
 split at h
 ·cases h
 omega
theorem eF {m m':Int} {v:Val} (h:ah m v=0) (hm:m<=m'):ah m' v=0:=by
 unfold ah at h⊢;split
 ·rename_i h1;rw[if_pos h1] at h;exact h
 rename_i h1
 rw[if_neg h1] at h;split
 ·rename_i h2;rw[if_pos h2] at h;exact h
 rename_i h2
 rw[if_neg h2] at h;split
 ·rename_i h3
  rw[if_pos h3] at h;split at h
  ·cases h
  rename_i h4
  rw[if_neg (by omega)];exact h
 ·rename_i h3;rw[if_neg h3] at h;exact h
theorem eB.mono {m m':Int} {f:Fm} (h:eB m f) (hm:m<=m'):eB m' f:=⟨fun v hv=>eF (h.1 v hv) hm,fun v hv=>eF (h.2 v hv) hm⟩
theorem nE.mono {p:Pz} {m m':Int} {pre:List Fm} {n:Int} (h:nE p m pre n) (hm:m<=m'):nE p m' pre n:=fun k g hk=>⟨(h k g hk).1,(h k g hk).2.mono hm⟩
theorem nE.more {p:Pz} {m:Int} {pre:List Fm} {f:Fm} {n:Int} (h:nE p m pre f.fn) (hf:frameC p f (17,n)=0) (hv:eB m f):nE p m (pre++ [f]) n:=by
 intro k g hk
 by_cases hkl:k<pre.length
 ·rw[List.getElem?_append_left hkl] at hk;have:=h k g hk;refine⟨?_,this.2⟩
  have h1:=this.1;rw[List.map_append,List.append_assoc,show[f].map Fm.fn++ [n]=[f.fn]++ [n] from rfl,<-List.append_assoc];rw[List.getD_eq_getElem?_getD,List.getElem?_append_left (by simp;omega),<-List.getD_eq_getElem?_getD]
  exact h1
 ·have hlt:=(List.getElem?_eq_some_iff.1 hk).1;simp at hlt
  obtain rfl:k=pre.length:=by omega
  have:g=f:=by simpa using hk.symm
  subst this;refine⟨?_,hv⟩
  rw[show((pre++ [g]).map Fm.fn++ [n]).getD (pre.length+1) 0=n by simp[List.getD_eq_getElem?_getD]];exact hf
theorem nE.less {p:Pz} {m:Int} {pre:List Fm} {f:Fm} {n:Int} (h:nE p m (pre++ [f]) n):nE p m pre f.fn/\frameC p f (17,n)=0/\eB m f:=by
 refine⟨fun k g hk=>?_,?_⟩
 ·have hkl:=(List.getElem?_eq_some_iff.1 hk).1;have:=h k g (by rw[List.getElem?_append_left hkl];exact hk)
  refine⟨?_,this.2⟩
  have h1:=this.1;rw[List.map_append,List.append_assoc,show[f].map Fm.fn++ [n]=[f.fn]++ [n] from rfl,<-List.append_assoc] at h1;rw[List.getD_eq_getElem?_getD,List.getElem?_append_left (by simp;omega),<-List.getD_eq_getElem?_getD] at h1
  exact h1
 ·have:=h pre.length f (by simp);rw[show((pre++ [f]).map Fm.fn++ [n]).getD (pre.length+1) 0=n by simp[List.getD_eq_getElem?_getD]] at this;exact this
end
end Go.Proofs.YtbcadjgpcfmkfaaGreatDoor
