/- MPack; LNew. -/
import Derived.Test.YtbcadjgpcfmkfaaGreatDoorPartU41
import Derived.Test.YtbcadjgpcfmkfaaGreatDoorPartU1
import Derived.Test.YtbcadjgpcfmkfaaGreatDoorPartU21
set_option maxHeartbeats 0
set_option maxRecDepth 100000
set_option linter.unusedSimpArgs false
namespace Go.Proofs.YtbcadjgpcfmkfaaGreatDoor
open Go Go.RowKit
section
abbrev DY (f:Fm):List Val:=f.vars++f.stack
theorem U0 {l:List Fm} {k:Nat} {f:Fm} (h:l[k]?=some f):(l.take (k+1)).flatMap DY=(l.take k).flatMap DY++(f.vars++f.stack):=by
 rw[List.take_add_one,h];simp[DY]
theorem U1 {l:List Fm} {k:Nat} {f:Fm} (h:l[k]?=some f):(l.drop k).flatMap DY=(f.vars++f.stack)++(l.drop (k+1)).flatMap DY:=by
 obtain⟨hk,rfl⟩:=List.getElem?_eq_some_iff.1 h;rw[List.drop_eq_getElem_cons hk,List.flatMap_cons]
theorem U2 (l:List Fm) (k:Nat):((l.take k).flatMap DY).length<=(l.flatMap DY).length:=by
 conv=>rhs;rw[<-List.take_append_drop k l]
 rw[List.flatMap_append,List.length_append];omega
theorem Gc {q:ai} {k n c:Nat} {N:Nat} (h:∀b,q.v.ownBlock=some b->N<=b):∀b,(ai.v ⟨if q.c=k then q.a else q.a.map (·.add (k*3)),n,c⟩).ownBlock=some b->N<=b:=fun b e=>by
 refine h b ?_
 obtain⟨qa,qn,qc⟩:=q;cases qa with
 |none=>simp only[Option.map_none,ite_self] at e;exact e
 |some p=>
  simp only[Option.map_some] at e;split at e
  ·exact e
  ·by_cases hk:k*3=0
   ·simpa[ai.v,Value.ownBlock,Addr.add,hk] using e
   ·simpa[ai.v,Value.ownBlock,Addr.add,hk] using e
theorem rA {v:Value} {b:Nat} (h:∃ao n c,v=.slice (some ao) n c/\ao.block=b):v.ownBlock=some b:=by
 obtain⟨ao,n,c,rfl,rfl⟩:=h;rfl
theorem Cs (g:Val->Val) (xs m:List Val):((xs++m).map g).take xs.length++xs.drop ((xs++m).map g).length=xs.map g:=by
 rw[List.map_append,List.take_left' (by simp),List.drop_of_length_le (by simp),List.append_nil]
theorem Ct (g:Val->Val) (xs m:List Val):((xs++m).map g).drop xs.length=m.map g:=by
 rw[List.map_append,List.drop_left' (by simp)]
theorem Kn {B N:Nat} {rr:aQ} {f:Fm} {w:World} (hat:Fo B rr f w) (g:Val->Val) {q1 q3:ai} {rest:List Val} (h1:Sl aP 3 w q1.v ((f.vars++(f.stack++rest)).map g)) (h3:Sl aP 3 w q3.v ((f.stack++rest).map g)) (hb:∀b,(rr.v.ob=some b\/rr.s.ob=some b)->b<N) (hq:∀b,q3.v.ownBlock=some b->N<=b):
 ∃wc wd,(Builtin.copy_ #[49,49] 3 #[.slice rr.v.a rr.v.n rr.v.c,.slice q1.a q1.n q1.c]).run Tryz.prog w=.ok (goInt f.vars.length) wc/\Fr (fun b=>rr.v.ob=some b) w wc/\(Builtin.copy_ #[49,49] 3 #[.slice rr.s.a rr.s.n rr.s.c,.slice q3.a q3.n q3.c]).run Tryz.prog wc=.ok (goInt f.stack.length) wd/\Fr (fun b=>rr.s.ob=some b) wc wd/\Fo B rr ⟨f.fn,f.at_,f.vars.map g,f.stack.map g⟩ wd:=by
 have hmn:∀xs m:List Val,Nat.min ((xs++m).map g).length xs.length=xs.length:=fun xs m=>by
  have:Nat.min ((xs++m).map g).length xs.length=min ((xs++m).map g).length xs.length:=rfl;rw[this];simp
 obtain⟨wc,hcp,hvc,U3⟩:=hat.v.copy Tryz.underlying49 Ep (by decide) aK lZ h1 3;rw[hmn] at hcp;rw[Cs] at hvc;have hsc:=hat.s.fr U3 (fun b e e2=>hat.d b e2 e);have h3c:=h3.fr U3 (fun b e e2=>by have:=hq b (rA e);have:=hb b (.inl e2);omega)
 obtain⟨wd,hcp2,hsd,Sn⟩:=hsc.copy Tryz.underlying49 Ep (by decide) aK lZ h3c 3;rw[hmn] at hcp2;rw[Cs] at hsd;exact⟨wc,wd,hcp,U3,hcp2,Sn,hat.fn,hat.at_,hvc.fr Sn (fun b e e2=>hat.d b e e2),hsd,hat.d⟩
theorem Cu (r:ai):(FV r).length=1:=rfl
theorem Ni (a:Ag) (sc sw sf sh:ai) (w:World) (hA:iK w sc sw sf sh a) (hB:AgB a) (hV:(tN a).length<=90000):
 Calls Tryz.prog 10 #[.agg (gH a sc sw sf sh)] w fun e w'=>∃(aY bG qf qh:ai),e=.returned (.agg (gH (zX a) aY bG qf qh))/\Fr nothing w w'/\iK w' aY bG qf qh (zX a):=by
 have F1:Fr nothing w (w.alloc (.cells (gH a sc sw sf sh) 31)):=(Fr.refl _ _).alloc _;obtain⟨w1,hw1⟩:∃y,y=w.alloc (.cells (gH a sc sw sf sh) 31):=⟨_,rfl⟩
 have F2:Fr nothing w1 (w1.alloc (.cells oM 31)):=(Fr.refl _ _).alloc _;obtain⟨w2,hw2⟩:∃y,y=w1.alloc (.cells oM 31):=⟨_,rfl⟩
 rw[<-hw1] at F1;rw[<-hw2] at F2;have z1:w1.heap.size=w.heap.size+1:=by rw[hw1];simp
 have z2:w2.heap.size=w.heap.size+2:=by rw[hw2];simp[z1]
 have ma:=af (w:=w) (cs:=gH a sc sw sf sh) (t:=31) (w1:=w2) (S:=nothing) (by rw[<-hw1];exact F2) id;have mr:=af (w:=w1) (cs:=oM) (t:=31) (w1:=w2) (S:=nothing) (by rw[<-hw2];exact Fr.refl _ _) id
 rw[z1] at mr;have bq:Hid (Fr nothing w w2):=F1.trans F2;have HRR:Hid (∀w',Fr (fun k=>k≠w.heap.size+1) w2 w'->(∀j,j<9->w'.cell? ⟨w.heap.size+1,j,none⟩=oM[j]?)/\(∀j,w'.frozen? ⟨w.heap.size+1,j,none⟩=false)/\w.heap.size+1<w'.heap.size):=fun w' hf=>⟨fun j _=>(hf.cell (p:=⟨w.heap.size+1,j,none⟩) mr.2.2 (fun e=>e rfl)).trans (mr.1 j),fun j=>(hf.frozen (p:=⟨w.heap.size+1,j,none⟩) mr.2.2 (fun e=>e rfl)).trans (mr.2.1 j),Nat.lt_of_lt_of_le mr.2.2 hf.size⟩
 have KS:=hide ma;have HA2:=hide (hA.fr' bq.out);have xY:=hide hB;have HVV:=hide hV;have pQ:=hw1.symm;have e2':=hw2.symm;have i0:=ma.1 0;have i1:=ma.1 1;have i2:=ma.1 2;have i3:=ma.1 3;have i4:=ma.1 4;have i5:=ma.1 5;have i6:=ma.1 6;have i7:=ma.1 7;have i8:=ma.1 8;have il:=ma.2.2;simp only[gH,List.getElem?_toArray,List.getElem?_cons_zero,List.getElem?_cons_succ] at i0 i1 i2 i3 i4 i5 i6 i7 i8;clear hA hB hV ma mr F1 F2 hw1 hw2
 go_enter Tryz.func10,Tryz.ntmps10
 go_wp2_with (go_at_call 14;refine(sI a sc sw sf sh _ HA2.out xY.out).mono ?_;rintro e w3 ⟨aY,bG,qf,qh,rs,B,rfl,hf3,hB3,Af,Dn⟩;have dX:=hide hf3;have NC:=hide Af;have vC:=hide Dn;have HB3:=hide hB3;have m0:∀j,w3.cell? ⟨w.heap.size,j,none⟩=_:=(fun j=>(hf3.cell (p:=⟨w.heap.size,j,none⟩) KS.out.2.2 id).trans (KS.out.1 j));have m1:∀j,w3.frozen? ⟨w.heap.size,j,none⟩=_:=(fun j=>(hf3.frozen (p:=⟨w.heap.size,j,none⟩) KS.out.2.2 id).trans (KS.out.2.1 j));obtain⟨w4,hw4,cA,cB,jW⟩:=Aw (w:=w3) (b:=w.heap.size) (f:=fun i=>(gH a sc sw sf sh).getD i (.int .i64 0)) (.int .i64 a.id) (.int .i64 a.bu) (.slice aY.a aY.n aY.c) (.slice bG.a bG.n bG.c) (.slice qf.a qf.n qf.c) (.slice qh.a qh.n qh.c) (.int .i64 a.fuel) (.int .i64 a.cells) (.int .i64 a.hops) (fun i hi=>by(rw[m0 i];match i,hi with|0,_|1,_|2,_|3,_|4,_|5,_|6,_|7,_|8,_=>rfl));have l0:=m0 0;have l1:=m0 1;have l2:=m0 2;have l3:=m0 3;have l4:=m0 4;have l5:=m0 5;have l6:=m0 6;have l7:=m0 7;have l8:=m0 8;have n0:=m1 0;have n1:=m1 1;have n2:=m1 2;have n3:=m1 3;have n4:=m1 4;have n5:=m1 5;have n6:=m1 6;have n7:=m1 7;have n8:=m1 8;have ll:=Nat.lt_of_lt_of_le KS.out.2.2 hf3.size;have HC4:=hide (And.intro cA cB);have gX:=hide jW;have HN3:=hide m1;have c3':=cA.2.2.2.2;simp only[gH,List.getElem?_toArray,List.getElem?_cons_zero,List.getElem?_cons_succ] at l0 l1 l2 l3 l4 l5 l6 l7 l8;clear hf3 Af Dn hB3 m0 m1 cA cB jW)
 have YH:Hid (Bx w.heap.size a aY bG qf qh w4):=by
  obtain⟨⟨p0,p1,p2,p3,p4⟩,p5,p6,p7,p8⟩:=HC4.out;exact⟨p0,p1,p2,p3,p4,p5,p6,p7,p8,fun j=>by
   rw[<-hw4];simp only[World.frozen?_setCell];exact HN3.out j,Nat.lt_of_lt_of_le ll gX.out.size⟩
 have hab:w.heap.size<B:=by have:=HB3.out;omega
 have RD:Hid (Mo B qf qh rs a.fr a.hp w4):=NC.out.fr gX.out (fun b h1 h2 e=>by have e':b=w.heap.size:=e;omega);have acX:Hid (∀w'',Fr (fun k=>k<w2.heap.size\/B<=k) w4 w''->iq w'' aY bG a.pg):=fun w'' hf=>vC.out w'' ((gX.out.mono (fun k _ e=> .inl (by have e':k=w.heap.size:=e;omega))).trans hf)
 have abl:Hid (Fr (fun k=>k=w.heap.size) w2 w4):=(dX.out.mono (fun _ _ e=>e.elim)).trans gX.out;clear HC4 HN3 gX NC vC dX l0 l1 l2 l3 l4 l5 l6 l7 l8 n0 n1 n2 n3 n4 n5 n6 n7 n8 ll i0 i1 i2 i3 i4 i5 i6 i7 i8 il c3' hw4;have nL:qf.n=a.fr.length:=by rw[RD.out.fw.row.n,RD.out.fw.len]
 have ab4:a.fr.length<=1000:=xY.out.fr;obtain⟨Gl,qfn,AQ⟩:=qf;simp only at nL;subst nL;have HS0:Hid (Fr nothing w4 w4/\Sl aP 3 w4 aN.v ((a.fr.take 0).flatMap DY)):=⟨Fr.refl _ _,by rw[List.take_zero];exact gN _ _ _⟩
 go_loopw [13,3,5] (fun i v3 _ wr=>∃(k:Nat) (q:ai),k<=a.fr.length/\i=.int .i64 k/\v3=.slice q.a q.n q.c/\Hid (Fr nothing w4 wr/\Sl aP 3 wr q.v ((a.fr.take k).flatMap DY))) (fun i _ _ _=>a.fr.length-(intOf i).toNat)
 case atStart=>exact⟨0,aN,Nat.zero_le _,rfl,rfl,HS0⟩
 case round=>
  obtain⟨k,q,hk,rfl,rfl,hRk⟩:=hrel;clear HS0
  by_cases hlt:k<a.fr.length
  ·obtain⟨iT,Ko⟩:=hRk.out;have hck:a.fr[k]?=some a.fr[k]:=List.getElem?_eq_getElem hlt;generalize a.fr[k]=f at hck;have Ws:=RD.out.fr iT (fun _ _ _=>id);obtain⟨rr,hrr⟩:∃y,rs[k]?=some y:=⟨_,List.getElem?_eq_getElem (by rw[Ws.fw.len];exact hlt)⟩
   have hat:=(Ws.fw.ep k rr f hlt hrr hck).1;obtain⟨fg,fo,ec,Gj,y0,y1,y2,y3⟩:=jJ (s:=⟨Gl,a.fr.length,AQ⟩) (Ws.fw.row.sl dA) hrr;simp only at ec;subst ec;have hty:=U0 hck;have hle:=U2 a.fr (k+1);have hvv:=HVV.out;rw[hty] at hle;have HR:=hide (And.intro iT (And.intro Ko (And.intro hat (And.intro hty (Nat.le_trans hle hvv)))));clear iT Ko hat hty hle hvv hck Ws hrr hRk
   go_wp2_with fail
   have FB:Fr nothing wr (wr.alloc (.cells #[.int .i64 rr.fn,.int .i64 rr.at_,.slice rr.v.a rr.v.n rr.v.c,.slice rr.s.a rr.s.n rr.s.c] 51)):=(Fr.refl _ _).alloc _;have zB:(wr.alloc (.cells #[.int .i64 rr.fn,.int .i64 rr.at_,.slice rr.v.a rr.v.n rr.v.c,.slice rr.s.a rr.s.n rr.s.c] 51)).heap.size=wr.heap.size+1:=by simp
   generalize wr.alloc (.cells #[.int .i64 rr.fn,.int .i64 rr.at_,.slice rr.v.a rr.v.n rr.v.c,.slice rr.s.a rr.s.n rr.s.c] 51)=wB at*;have FC:Fr nothing wB (wB.alloc (.cells #[.slice q.a q.n q.c,.slice rr.v.a rr.v.n rr.v.c,.slice rr.s.a rr.s.n rr.s.c] 49)):=(Fr.refl _ _).alloc _;have YI:Sl FV 1 (wB.alloc (.cells #[.slice q.a q.n q.c,.slice rr.v.a rr.v.n rr.v.c,.slice rr.s.a rr.s.n rr.s.c] 49)) (ai.v ⟨some ⟨wB.heap.size,0,none⟩,3,3⟩) [q,rr.v,rr.s]:=(Own.lit (enc:=FV) (T:=49) (base:=0) (sz:=1) wB #[.slice q.a q.n q.c,.slice rr.v.a rr.v.n rr.v.c,.slice rr.s.a rr.s.n rr.s.c] [q,rr.v,rr.s] rfl Cu (Nat.zero_le _) (by unfold maxLen;simp)).sl Cu
   rw[zB] at YI;obtain⟨iT,Ko,hat,hty,hle⟩:=HR.out;have RF:Fr nothing wr (wB.alloc (.cells #[.slice q.a q.n q.c,.slice rr.v.a rr.v.n rr.v.c,.slice rr.s.a rr.s.n rr.s.c] 49)):=FB.trans FC;have kM:Each (fun(r:ai) (l:List Val)=>Sl aP 3 (wB.alloc (.cells #[.slice q.a q.n q.c,.slice rr.v.a rr.v.n rr.v.c,.slice rr.s.a rr.s.n rr.s.c] 49)) r.v l) [q,rr.v,rr.s] [(a.fr.take k).flatMap DY,f.vars,f.stack]:=⟨rfl,fun i r l h1 h2=>by
    match i,h1,h2 with
    |0,h1,h2=>
     cases Option.some.inj h1;cases Option.some.inj h2
     exact Ko.fr RF (fun _ _=>id)
    |1,h1,h2=>
     cases Option.some.inj h1;cases Option.some.inj h2
     exact(hat.v.sl aK).fr RF (fun _ _=>id)
    |2,h1,h2=>
     cases Option.some.inj h1;cases Option.some.inj h2
     exact(hat.s.sl aK).fr RF (fun _ _=>id)
    |j+3,h1,_=>simp at h1⟩
   have hfl: [(a.fr.take k).flatMap DY,f.vars,f.stack].flatten=(a.fr.take (k+1)).flatMap DY:=by rw[hty];simp
   have HCN:=hide (Ga ⟨some ⟨wr.heap.size+1,0,none⟩,3,3⟩ [q,rr.v,rr.s] [(a.fr.take k).flatMap DY,f.vars,f.stack] _ YI kM (by rw[hfl,hty];omega) (by show 3<=1000;omega));rw[hfl] at HCN;have DV:=hide (iT.trans RF);clear iT Ko hat hty hle RF kM hfl YI FB FC zB;refine HCN.out.mono ?_
   rintro e w5 ⟨q',rfl,cK,uD⟩;have HN:=hide (And.intro (DV.out.trans cK) (uD.sl aK));clear cK uD
   go_wp2_with fail
   go_roundw
   case rel=>exact⟨k+1,q',by omega,by go_num,rfl,HN⟩
   case measure=>simp[intOf];omega
  ·obtain rfl:k=a.fr.length:=by omega
   obtain⟨iT,Ko⟩:=hRk.out;rw[List.take_length] at Ko;have Ws:=RD.out.fr iT (fun _ _ _=>id);have hBr:=YH.out.fr iT id;have HHp:=hide (Ws.hp.sl bY);have HSq:=hide Ko;have HMr:=hide Ws;have HBr:=hide hBr;have sJ:=hide iT;have c5:=hBr.c5;have bl:=hBr.ml;have HLB:=hide (And.intro xY.out.hp (Nat.le_trans HVV.out (show 90000<=100000 by omega)));clear iT Ko Ws hBr hRk YH RD
   go_wp2_with (go_at_call 23;refine(Km a.hp (tN a) qh q _ HHp.out HSq.out HLB.out.1 HLB.out.2).mono ?_;rintro e w6 ⟨xq,kq,rfl,hx,hkq,aR,⟨Oz,Qw⟩,hxb,hkb⟩;have hb6:=HBr.out.fr aR id;have b4:=hb6.c4;have b5:=hb6.c5;have bz5:=hb6.z 5;have bl6:=hb6.ml;have QX:=hide hb6;have HX6:=hide (And.intro hx (And.intro Oz (And.intro Qw hxb)));have HK6:=hide (And.intro hkq hkb);have bg:=hide aR;clear hx hkq aR Oz Qw hxb hkb hb6)
   have yh:Fr (fun k=>k=w.heap.size) w6 (w6.setCell ⟨w.heap.size,5,none⟩ (.slice kq.a kq.n kq.c)):=(Fr.refl (fun k=>k=w.heap.size) w6).setCell (p:=⟨w.heap.size,5,none⟩) (.inl rfl) _;have EL:=hide (QX.out.s5 kq);have J4:=hide (HX6.out.1.fr yh (fun b e e2=>by have:=HX6.out.2.2.2 b (rA e);have e':b=w.heap.size:=e2;omega))
   have HK7:=hide (HK6.out.1.fr yh (fun b e e2=>by have:=HK6.out.2 b (rA e);have e':b=w.heap.size:=e2;omega));have HW7:=hide ((HMr.out.fw.fr bg.out (fun _ _ _=>id)).fr yh (fun b h1 h2 e=>by have e':b=w.heap.size:=e;omega))
   have dH:Hid (Fr (fun k=>k=w.heap.size) w4 (w6.setCell ⟨w.heap.size,5,none⟩ (.slice kq.a kq.n kq.c))):=((sJ.out.trans bg.out).mono (fun _ _ e=>e.elim)).trans yh;have HNZ:Hid (wr.heap.size<=(w6.setCell ⟨w.heap.size,5,none⟩ (.slice kq.a kq.n kq.c)).heap.size):=Nat.le_trans bg.out.size yh.size;have HNW:Hid (w2.heap.size<=wr.heap.size):=Nat.le_trans abl.out.size sJ.out.size;have WY:Hid (∀(i:Nat) (r:aQ),rs[i]?=some r->i<a.fr.length->∀b,(r.v.ob=some b\/r.s.ob=some b)->B<=b/\b<wr.heap.size):=fun i r hr hi b hb=>by
    have h1:=(HMr.out.fw.ep i r a.fr[i] hi hr (List.getElem?_eq_getElem hi)).1;rcases hb with e|e
    ·exact h1.v.lt e
    ·exact h1.s.lt e
   clear yh QX bg sJ HBr HMr HHp HSq b4 b5 bz5 bl6 c5 bl;generalize w6.setCell ⟨w.heap.size,5,none⟩ (.slice kq.a kq.n kq.c)=w7 at*;generalize wr.heap.size=N at*;have hcv:(pG.mO (List.map Dk a.hp) (List.map sF (tN a))).map fromV=(tN a).map (NJ a):=by
    rw[Nh a,List.map_map]
    conv=>rhs;rw[<-List.map_id ((tN a).map (NJ a))]
    exact List.map_congr_left fun v _=>Rw v
   rw[hcv] at J4;have HL0:Hid (Fw B ⟨Gl,a.fr.length,AQ⟩ rs a.fr.length a.fr w7/\((∀i,i<0->a.fr[i]?=(a.fr[i]?).map (rnF a))/\(∀i,0<=i->a.fr[i]?=a.fr[i]?))/\Sl aP 3 w7 xq.v (((a.fr.drop 0).flatMap DY).map (NJ a))/\((a.fr.drop 0).flatMap DY).length<=xq.c/\(∀b,xq.v.ownBlock=some b->N<=b)/\Fr (fun b=>B<=b/\b<N) w7 w7):=⟨HW7.out,⟨fun i hi=>absurd hi (by omega),fun _ _=>rfl⟩,J4.out,by rw[HX6.out.2.2.1];exact Nat.le_refl _,HX6.out.2.2.2,Fr.refl _ _⟩
   clear J4 HW7 HX6 hcv;have c4:=EL.out.c4;have bl7:=EL.out.ml
   go_loopw [36,3,7] (fun i v3 _ wx=>∃(k:Nat) (q:ai) (fs:List Fm),k<=a.fr.length/\i=.int .i64 k/\v3=.slice q.a q.n q.c/\Hid (Fw B ⟨Gl,a.fr.length,AQ⟩ rs a.fr.length fs wx/\((∀i,i<k->fs[i]?=(a.fr[i]?).map (rnF a))/\(∀i,k<=i->fs[i]?=a.fr[i]?))/\Sl aP 3 wx q.v (((a.fr.drop k).flatMap DY).map (NJ a))/\((a.fr.drop k).flatMap DY).length<=q.c/\(∀b,q.v.ownBlock=some b->N<=b)/\Fr (fun b=>B<=b/\b<N) w7 wx)) (fun i _ _ _=>a.fr.length-(intOf i).toNat)
   case atStart=>exact⟨0,xq,a.fr,Nat.zero_le _,rfl,rfl,HL0⟩
   case round=>
    obtain⟨k,q2,fs,hk,rfl,rfl,hRk⟩:=hrel;clear HL0
    by_cases hlt:k<a.fr.length
    ·obtain⟨hW,⟨hlo,hhi⟩,Ko,hqc,hqb,MH⟩:=hRk.out;have hck:a.fr[k]?=some a.fr[k]:=List.getElem?_eq_getElem hlt;generalize a.fr[k]=f at hck;have BS:fs[k]?=some f:=(hhi k (Nat.le_refl k)).trans hck;obtain⟨rr,hrr⟩:∃y,rs[k]?=some y:=⟨_,List.getElem?_eq_getElem (by rw[hW.len];exact(List.getElem?_eq_some_iff.1 BS).1)⟩
     have hat:=(hW.ep k rr f hlt hrr BS).1;obtain⟨fg,fo,ec,Gj,y0,y1,y2,y3⟩:=jJ (s:=⟨Gl,a.fr.length,AQ⟩) (hW.row.sl dA) hrr;simp only at ec;subst ec;have hdv:=U1 hck;rw[hdv,List.append_assoc] at Ko hqc;obtain⟨rest,hrest⟩:∃rest,rest=(a.fr.drop (k+1)).flatMap DY:=⟨_,rfl⟩
     rw[<-hrest] at Ko hqc;have Lu:=hide hrest;clear hrest;have dF:=WY.out k rr hrr hlt;have FB:Fr nothing wr (wr.alloc (.cells #[.int .i64 rr.fn,.int .i64 rr.at_,.slice rr.v.a rr.v.n rr.v.c,.slice rr.s.a rr.s.n rr.s.c] 51)):=(Fr.refl _ _).alloc _;have mB:=af (Fr.refl nothing (wr.alloc (.cells #[.int .i64 rr.fn,.int .i64 rr.at_,.slice rr.v.a rr.v.n rr.v.c,.slice rr.s.a rr.s.n rr.s.c] 51))) id;obtain⟨wB,hwB⟩:∃y,wr.alloc (.cells #[.int .i64 rr.fn,.int .i64 rr.at_,.slice rr.v.a rr.v.n rr.v.c,.slice rr.s.a rr.s.n rr.s.c] 51)=y:=⟨_,rfl⟩
     rw[hwB] at FB mB;have hNr:N<=wr.heap.size:=Nat.le_trans HNZ.out MH.size;have ho1:∀b,rr.v.ob=some b->B<=b/\b<N:=fun b e=>dF b (.inl e)
     have ho2:∀b,rr.s.ob=some b->B<=b/\b<N:=fun b e=>dF b (.inr e)
     have nL:=(ay Ko).1;obtain⟨qa,qn,qc⟩:=q2;simp only[List.length_map,List.length_append] at nL hqc;subst nL;have abm:=hat.fr FB (fun _ _=>id) (fun _ _=>id);have hqB:=Ko.fr FB (fun _ _=>id);have htl:=Di (q:=⟨qa,f.vars.length+(f.stack.length+rest.length),qc⟩) hqB f.vars.length (by simp) (by simpa using hqc);have htb:=Gc (q:=⟨qa,f.vars.length+(f.stack.length+rest.length),qc⟩) (k:=f.vars.length) (n:=f.stack.length+rest.length) (c:=qc-f.vars.length) hqb;rw[Ct,List.length_map,List.length_append,List.length_append,show f.vars.length+(f.stack.length+rest.length)-f.vars.length=f.stack.length+rest.length by omega] at htl;simp only at htl htb;obtain⟨ta,hta⟩:∃ta,ta=(if qc=f.vars.length then qa else qa.map (·.add (f.vars.length*3))):=⟨_,rfl⟩
     rw[<-hta] at htl htb;obtain⟨wc,wd,hcp,U3,hcp2,Sn,hFo⟩:=Kn (q3:=⟨ta,f.stack.length+rest.length,qc-f.vars.length⟩) abm (NJ a) hqB htl (fun b e=>(dF b e).2) htb;have htd:=((htl.fr U3 (fun b e e2=>by have:=htb b (rA e);have:=(dF b (.inl e2)).2;omega)).fr Sn (fun b e e2=>by have:=htb b (rA e);have:=(dF b (.inr e2)).2;omega))
     have hrl:=Di (q:=⟨ta,f.stack.length+rest.length,qc-f.vars.length⟩) htd f.stack.length (by simp) (by simp;omega);have hrb:=Gc (q:=⟨ta,f.stack.length+rest.length,qc-f.vars.length⟩) (k:=f.stack.length) (n:=rest.length) (c:=qc-f.vars.length-f.stack.length) htb;rw[Ct,List.length_map,List.length_append,show f.stack.length+rest.length-f.stack.length=rest.length by omega] at hrl;simp only at hrl hrb;have YJ:Fr (fun b=>rr.v.ob=some b\/rr.s.ob=some b) wB wd:=(U3.mono (fun _ _ e=> .inl e)).trans (Sn.mono (fun _ _ e=> .inr e));have hW2:=(hW.fr FB (fun _ _ _=>id)).copied hlt hrr hFo YJ;have b2:wB.cell? ⟨wr.heap.size,2,none⟩=_:=mB.1 2;have bl2:=mB.2.2;have c3:wc.cell? ⟨wr.heap.size,3,none⟩=_:=(U3.cell (p:=⟨wr.heap.size,3,none⟩) mB.2.2 (fun e=>by have:=(dF _ (.inl e)).2;simp only at this;omega)).trans (mB.1 3)
     have cl3:=Nat.lt_of_lt_of_le mB.2.2 U3.size;have hlo2:∀i,i<k+1->(fs.set k ⟨f.fn,f.at_,f.vars.map (NJ a),f.stack.map (NJ a)⟩)[i]?=(a.fr[i]?).map (rnF a):=fun i hi=>by
      by_cases e:i=k
      ·subst e;rw[List.getElem?_set_self (List.getElem?_eq_some_iff.1 BS).1,hck];rfl
      ·rw[List.getElem?_set_ne (by omega)];exact hlo i (by omega)
     have hhi2:∀i,k+1<=i->(fs.set k ⟨f.fn,f.at_,f.vars.map (NJ a),f.stack.map (NJ a)⟩)[i]?=a.fr[i]?:=fun i hi=>by
      rw[List.getElem?_set_ne (by omega)];exact hhi i (by omega)
     have abn:Fr (fun b=>B<=b/\b<N) w7 wd:=(MH.trans (FB.mono (fun _ _ e=>e.elim))).trans (YJ.mono (fun b _ e=>dF b e));have HN:=hide (And.intro hW2 (And.intro (And.intro hlo2 hhi2) (And.intro hrl (And.intro hrb abn))));have hdl:f.vars.length+(f.stack.length+rest.length)-f.vars.length=f.stack.length+rest.length:=by omega
     have hdl2:f.stack.length+rest.length-f.stack.length=rest.length:=by omega
     clear Ko hlo hhi hW hqb MH hck BS hrr hat hRk abm hqB htl htb U3 Sn hFo htd hrl hrb YJ hW2 hlo2 hhi2 abn dF mB FB
     by_cases h1:qc=f.vars.length
     ·subst h1;rw[if_pos rfl] at hta;subst hta;have hs0:f.stack.length=0:=by omega
      have hr0:rest.length=0:=by omega
      simp only[hs0,hr0,Nat.add_zero,Nat.sub_self,↓reduceIte] at hcp hcp2 HN
      go_wp2_with fail
      obtain⟨n1,n2,n3,n4,n5⟩:=HN.out;refine⟨⟨k+1,⟨ta,0,0⟩,_,by omega,by go_num,rfl,hide ⟨n1,n2,by rw[<-Lu.out];exact n3,by rw[<-Lu.out,hr0];exact Nat.zero_le _,n4,n5⟩⟩,by simp[intOf];omega⟩
     ·rw[if_neg h1] at hta;subst hta;simp only[Option.map_map] at HN
      go_wp2_with fail
      obtain⟨n1,n2,n3,n4,n5⟩:=HN.out;refine⟨⟨k+1,⟨(if qc-f.vars.length=f.stack.length then Option.map (fun x=>x.add (f.vars.length*3)) qa else Option.map ((fun x=>x.add (f.stack.length*3))∘fun x=>x.add (f.vars.length*3)) qa),rest.length,qc-f.vars.length-f.stack.length⟩,_,by omega,by go_num,rfl,hide ⟨n1,n2,by rw[<-Lu.out];exact n3,by rw[<-Lu.out];show rest.length<=qc-f.vars.length-f.stack.length;omega,n4,n5⟩⟩,by simp[intOf];omega⟩
    ·obtain rfl:k=a.fr.length:=by omega
     obtain⟨hW,⟨hlo,-⟩,-,-,-,MH⟩:=hRk.out;have hfs:fs=a.fr.map (rnF a):=by
      refine List.ext_getElem? fun i=>?_
      rw[List.getElem?_map]
      by_cases hi:i<a.fr.length
      ·exact hlo i hi
      ·have:fs.length=a.fr.length:=by rw[<-hW.len];have:=hW.row.n;simpa using this.symm
       rw[List.getElem?_eq_none (by omega),List.getElem?_eq_none (by omega)];rfl
     subst hfs;have hBx:=EL.out.fr MH (fun e=>by have:=e.1;omega)
     have hKx:=HK7.out.fr MH (fun b e e2=>by have:=HK6.out.2 b (rA e);omega);have YK:Fr (fun k=>k=w.heap.size\/B<=k) w2 wr:=(abl.out.mono (fun _ _ e=> .inl e)).trans ((dH.out.mono (fun _ _ e=> .inl e)).trans (MH.mono (fun b _ e=> .inr e.1)));have HW:=hide hW;have HBX:=hide hBx;have HKX:=hide hKx;have acY:=hide YK;have acZ:Hid (Fr (fun k=>k<w2.heap.size\/B<=k) w4 wr):=(dH.out.mono (fun b _ e=> .inl (by have e':b=w.heap.size:=e;omega))).trans (MH.mono (fun b _ e=> .inr e.1))
     obtain⟨k0,k1,k2,k3,k4,k5,k6,k7,k8,-,kl⟩:=hBx;have hB3':=HB3.out;obtain⟨hr,hz,hrl⟩:=HRR.out wr (YK.mono (fun j hj e=>by rcases e with e|e<;>omega))
     have r0:=hr 0 (by decide);have r1:=hr 1 (by decide);have r2:=hr 2 (by decide);have r3:=hr 3 (by decide);have r4:=hr 4 (by decide);have r5:=hr 5 (by decide);have r6:=hr 6 (by decide);have r7:=hr 7 (by decide);have r8:=hr 8 (by decide);have y0:=hz 0;have y1:=hz 1;have y2:=hz 2;have y3:=hz 3;have y4:=hz 4;have y5:=hz 5;have y6:=hz 6;have y7:=hz 7;have y8:=hz 8;obtain⟨w8,hw8,cA,cB,AJ⟩:=Aw (w:=wr) (b:=w.heap.size+1) (f:=fun i=>oM.getD i (.int .i64 0)) (.int .i64 a.id) (.int .i64 a.bu) (.slice aY.a aY.n aY.c) (.slice bG.a bG.n bG.c) (.slice Gl a.fr.length AQ) (.slice kq.a kq.n kq.c) (.int .i64 a.fuel) (.int .i64 a.cells) (.int .i64 a.hops) (fun i hi=>by
      rw[hr i hi]
      match i,hi with
      |0,_|1,_|2,_|3,_|4,_|5,_|6,_|7,_|8,_=>rfl)
     clear hr hz hW hlo MH hKx YK hRk
     go_wp2_with fail
     obtain⟨c0,c1,c2,c3,c4⟩:=cA;obtain⟨c5,c6,c7,c8⟩:=cB;have hwx:=acY.out;have hN8:Fr (fun k=>k=w.heap.size\/k=w.heap.size+1\/B<=k) w2 w8:=(hwx.mono (fun k _ e=>e.elim .inl (fun e=> .inr (.inr e)))).trans (AJ.mono (fun k _ e=> .inr (.inl e)));have qy:Fr nothing w w8:=bq.out.then hN8 (fun j hj e=>by rcases e with e|e|e<;>omega)
     have hW8:=HW.out.fr AJ (fun b h1 h2 e=>by have e':b=w.heap.size+1:=e;omega);have hK8:=HKX.out.fr AJ (fun b e e2=>by have:=HK6.out.2 b (rA e);have:=HNW.out;have e':b=w.heap.size+1:=e2;omega)
     refine bodyPost_ret (v:=.agg (gH (zX a) aY bG ⟨Gl,a.fr.length,AQ⟩ kq)) (by simp[results,Tryz.results10,go_sem,c0,c1,c2,c3,c4,c5,c6,c7,c8,gH,zX]) rfl ⟨aY,bG,⟨Gl,a.fr.length,AQ⟩,kq,rfl,qy,acX.out w8 (acZ.out.trans (AJ.mono (fun b _ e=> .inl (by have e':b=w.heap.size+1:=e;omega)))),⟨rs,hW8.row.sl dA,hW8.len,fun i r x e1 e2=>?_⟩,hK8⟩
     have hil:i<a.fr.length:=by have:=(List.getElem?_eq_some_iff.1 e2).1;simpa[zX] using this
     have:=(hW8.ep i r x hil e1 e2).1;exact⟨this.fn,this.at_,this.v.sl aK,this.s.sl aK⟩
end
section
def fresh (vV:Int) (p:Pz) (fuel cells hops:Int):Ag:=⟨vV,0,p,[],[],fuel,cells,hops⟩
theorem U4 {vV:Int} {p:Pz} {fuel cells hops:Int} (h:aU p=0):AgB (fresh vV p fuel cells hops):=by
 have hh:p.cs.length<=5/\p.ws.length<=16:=by
  have hz:=h;unfold aU at hz;split at hz
  ·rename_i h1;exact absurd hz h1
  rename_i h1
  have:=iR (Classical.not_not.1 h1);exact⟨this.2.1,this.2.2.1⟩
 exact⟨by show p.cs.length<=1000;omega,fun c hc=>(by have:=gU h hc;omega),by show p.ws.length<=1000;omega,Nat.zero_le _,fun g hg=>absurd hg (List.not_mem_nil),Nat.zero_le _⟩
theorem RG (vV:Int) (p:Pz) (n:Nat) (fuel cells hops:Int) (sc sw:ai) (w:World) (hP:iq w sc sw p) (hz:aU p=0) (hn:n<=8) (h0:(p.cs[0]?).map Cz.nv=some (n:Int)):
 Calls Tryz.prog 13 #[.int .i64 vV,.agg #[.slice sc.a sc.n sc.c,.slice sw.a sw.n sw.c],.agg #[.int .i64 fuel,.int .i64 cells,.int .i64 hops]] w fun e w'=>∃aY bG sf qh:ai,e=.returned (.agg (gH (CZ vV p n fuel cells hops) aY bG sf qh))/\Fr nothing w w'/\iK w' aY bG sf qh (CZ vV p n fuel cells hops):=by
 obtain⟨c,hc,hcn⟩:=Option.map_eq_some_iff.1 h0;have FA:Fr nothing w (w.alloc (.cells #[.slice sc.a sc.n sc.c,.slice sw.a sw.n sw.c] 25)):=(Fr.refl _ _).alloc _;obtain⟨w1,hw1⟩:∃x,x=w.alloc (.cells #[.slice sc.a sc.n sc.c,.slice sw.a sw.n sw.c] 25):=⟨_,rfl⟩
 rw[<-hw1] at FA;have FB:Fr nothing w1 (w1.alloc (.cells #[.int .i64 fuel,.int .i64 cells,.int .i64 hops] 29)):=(Fr.refl _ _).alloc _;obtain⟨w2,hw2⟩:∃x,x=w1.alloc (.cells #[.int .i64 fuel,.int .i64 cells,.int .i64 hops] 29):=⟨_,rfl⟩
 rw[<-hw2] at FB;have FC:Fr nothing w2 (w2.alloc (.cells oM 31)):=(Fr.refl _ _).alloc _;obtain⟨w3,hw3⟩:∃x,x=w2.alloc (.cells oM 31):=⟨_,rfl⟩
 rw[<-hw3] at FC;have z1:w1.heap.size=w.heap.size+1:=by rw[hw1];simp
 have z2:w2.heap.size=w.heap.size+2:=by rw[hw2];simp[z1]
 have z3:w3.heap.size=w.heap.size+3:=by rw[hw3];simp[z2]
 have ma:=af (w:=w) (cs:=#[.slice sc.a sc.n sc.c,.slice sw.a sw.n sw.c]) (t:=25) (w1:=w3) (S:=nothing) (by rw[<-hw1];exact FB.trans FC) id;have mb:=af (w:=w1) (cs:=#[.int .i64 fuel,.int .i64 cells,.int .i64 hops]) (t:=29) (w1:=w3) (S:=nothing) (by rw[<-hw2];exact FC) id
 have mc:=af (w:=w2) (cs:=oM) (t:=31) (w1:=w3) (S:=nothing) (by rw[<-hw3];exact Fr.refl _ _) id;rw[z1] at mb;rw[z2] at mc;have dX:Hid (Fr nothing w w3):=(FA.trans FB).trans FC;have jY:Hid (∀w',Fr nothing w3 w'->((w'.cell? ⟨w.heap.size,0,none⟩=some (.slice sc.a sc.n sc.c)/\w'.cell? ⟨w.heap.size,1,none⟩=some (.slice sw.a sw.n sw.c))/\(w'.cell? ⟨w.heap.size+1,0,none⟩=some (.int .i64 fuel)/\w'.cell? ⟨w.heap.size+1,1,none⟩=some (.int .i64 cells)/\w'.cell? ⟨w.heap.size+1,2,none⟩=some (.int .i64 hops))/\(∀j,w'.cell? ⟨w.heap.size+2,j,none⟩=oM[j]?)/\(∀j,w'.frozen? ⟨w.heap.size+2,j,none⟩=false)/\w.heap.size+2<w'.heap.size)):=fun w' hf=>by
  have hca:∀j,w'.cell? ⟨w.heap.size,j,none⟩=_:=fun j=>(hf.cell (p:=⟨w.heap.size,j,none⟩) ma.2.2 id).trans (ma.1 j)
  have hcb:∀j,w'.cell? ⟨w.heap.size+1,j,none⟩=_:=fun j=>(hf.cell (p:=⟨w.heap.size+1,j,none⟩) mb.2.2 id).trans (mb.1 j)
  exact⟨⟨hca 0,hca 1⟩,⟨hcb 0,hcb 1,hcb 2⟩,fun j=>(hf.cell (p:=⟨w.heap.size+2,j,none⟩) mc.2.2 id).trans (mc.1 j),fun j=>(hf.frozen (p:=⟨w.heap.size+2,j,none⟩) mc.2.2 id).trans (mc.2.1 j),Nat.lt_of_lt_of_le mc.2.2 hf.size⟩
 have Qv:=hide (hP.fr dX.out);have HOWN:Hid (∀w',Fr nothing w3 w'->Calls Tryz.prog 14 #[.agg #[.int .i64 vV,.int .i64 0,.slice sc.a sc.n sc.c,.slice sw.a sw.n sw.c,.slice none 0 0,.slice none 0 0,.int .i64 fuel,.int .i64 cells,.int .i64 hops]] w' fun e w''=>∃(aY bG qf qh:ai) (rs:List aQ) (B:Nat),e=.returned (.agg #[.int .i64 vV,.int .i64 0,.slice aY.a aY.n aY.c,.slice bG.a bG.n bG.c,.slice qf.a qf.n qf.c,.slice qh.a qh.n qh.c,.int .i64 fuel,.int .i64 cells,.int .i64 hops])/\Fr nothing w' w''/\w'.heap.size<=B/\Mo B qf qh rs [] [] w''/\(∀w''',Fr (fun k=>k<w'.heap.size\/B<=k) w'' w'''->iq w''' aY bG p)):=fun w' hf=>sI (fresh vV p fuel cells hops) sc sw aN aN w' ⟨Qv.out.fr hf,⟨[],gN _ _ _,rfl,fun i r x h=>by simp at h⟩,gN _ _ _⟩ (U4 hz)
 have HBG:Hid (∀w',Fr nothing w3 w'->Calls Tryz.prog 29 #[.slice sc.a sc.n sc.c,.int .i64 0,.slice none 0 0] w' fun e w''=>∃qv:ai,e=.returned (.agg #[.int .i64 0,.int .i64 0,.slice qv.a qv.n qv.c,.slice none 0 0])/\Fr nothing w' w''/\Own aP 53 3 w'.heap.size qv (List.replicate n v0) w''):=fun w' hf=>BG sc sw p 0 aN [] w' (Qv.out.fr hf) hc n hn hcn (gN _ _ _) (Nat.zero_le _)
 have pQ:=hw1.symm;have e2':=hw2.symm;have e3':=hw3.symm;obtain⟨⟨p0,p1⟩,⟨q0,q1,q2⟩,-,-,pl⟩:=jY.out w3 (Fr.refl _ _);clear hP hz h0 hc hcn FA FB FC ma mb mc hw1 hw2 hw3
 go_enter Tryz.func13,Tryz.ntmps13
 go_wp2_with (first
  |(go_at_call 14;refine(HOWN.out _ (Fr.refl _ _)).mono ?_;rintro e w4 ⟨aY,bG,qf,qh,rs,B,rfl,gm,hB4,Af,Dn⟩;have gX:=hide gm;have NC:=hide Af;have vC:=hide Dn;obtain⟨⟨s0,s1⟩,⟨t0,t1,t2⟩,-,-,sl'⟩:=jY.out w4 gm;have FX:Fr nothing w4 (w4.alloc (.cells #[.int .i64 vV,.int .i64 0,.slice aY.a aY.n aY.c,.slice bG.a bG.n bG.c,.slice qf.a qf.n qf.c,.slice qh.a qh.n qh.c,.int .i64 fuel,.int .i64 cells,.int .i64 hops] 31)):=(Fr.refl _ _).alloc _;obtain⟨w5,xU⟩:∃y,y=w4.alloc (.cells #[.int .i64 vV,.int .i64 0,.slice aY.a aY.n aY.c,.slice bG.a bG.n bG.c,.slice qf.a qf.n qf.c,.slice qh.a qh.n qh.c,.int .i64 fuel,.int .i64 cells,.int .i64 hops] 31):=⟨_,rfl⟩;rw[<-xU] at FX;have mx:=af (w:=w4) (cs:=#[.int .i64 vV,.int .i64 0,.slice aY.a aY.n aY.c,.slice bG.a bG.n bG.c,.slice qf.a qf.n qf.c,.slice qh.a qh.n qh.c,.int .i64 fuel,.int .i64 cells,.int .i64 hops]) (t:=31) (w1:=w5) (S:=nothing) (by rw[<-xU];exact Fr.refl _ _) id;have aX:Hid (Fr nothing w3 w5):=gm.trans FX;have Zx:=hide mx;have HX:=hide FX;obtain⟨⟨VA,v1'⟩,⟨x0,x1,x2⟩,-,-,vl⟩:=jY.out w5 aX.out;have e5':=xU.symm;clear gm Af Dn FX mx xU))
 go_at_call 29
 refine(HBG.out _ aX.out).mono ?_
 rintro e w6 ⟨qv,rfl,aR,hO⟩;have bg:=hide aR;have HO:=hide hO;have FY:Fr nothing w6 (w6.alloc (.cells #[.int .i64 0,.int .i64 0,.slice qv.a qv.n qv.c,.slice none 0 0] 51)):=(Fr.refl _ _).alloc _;obtain⟨w7,hw7⟩:∃y,y=w6.alloc (.cells #[.int .i64 0,.int .i64 0,.slice qv.a qv.n qv.c,.slice none 0 0] 51):=⟨_,rfl⟩
 have YW:Sl lU 4 w7 (ai.v ⟨some ⟨w6.heap.size,0,none⟩,1,1⟩) [⟨0,0,qv,aN⟩]:=by
  rw[hw7];exact xK (T:=51) w6 #[.int .i64 0,.int .i64 0,.slice qv.a qv.n qv.c,.slice none 0 0] _ rfl
 have ZU:=hide YW;clear YW;rw[<-hw7] at FY;have my:=af (w:=w6) (cs:=#[.int .i64 0,.int .i64 0,.slice qv.a qv.n qv.c,.slice none 0 0]) (t:=51) (w1:=w7) (S:=nothing) (by rw[<-hw7];exact Fr.refl _ _) id
 have h57:Fr nothing w5 w7:=aR.trans FY;have hbx:∀j,w7.cell? ⟨w4.heap.size,j,none⟩=_:=fun j=>(h57.cell (p:=⟨w4.heap.size,j,none⟩) Zx.out.2.2 id).trans (Zx.out.1 j)
 have hbz:∀j,w7.frozen? ⟨w4.heap.size,j,none⟩=_:=fun j=>(h57.frozen (p:=⟨w4.heap.size,j,none⟩) Zx.out.2.2 id).trans (Zx.out.2.1 j)
 have y4:=hbx 4;have yz:=hbz 4;have yl:=Nat.lt_of_lt_of_le Zx.out.2.2 h57.size;have HBX:=hide (And.intro hbx hbz);have HMY:=hide my;have H57:=hide h57;have H67:=hide FY;have e7':=hw7.symm;have AJ:Fr (fun k=>k=w4.heap.size) w7 (w7.setCell ⟨w4.heap.size,4,none⟩ (.slice (some ⟨w6.heap.size,0,none⟩) 1 1)):=(Fr.refl (fun k=>k=w4.heap.size) w7).setCell (p:=⟨w4.heap.size,4,none⟩) (.inl rfl) _;have Gg:=dD (w:=w7) (b:=w4.heap.size) (n:=9) (j:=4) (f:=fun i=>(#[.int .i64 vV,.int .i64 0,.slice aY.a aY.n aY.c,.slice bG.a bG.n bG.c,.slice qf.a qf.n qf.c,.slice qh.a qh.n qh.c,.int .i64 fuel,.int .i64 cells,.int .i64 hops]:Array Value).getD i (.int .i64 0)) (v:=.slice (some ⟨w6.heap.size,0,none⟩) 1 1) (fun i hi=>by(rw[hbx i];match i,hi with|0,_|1,_|2,_|3,_|4,_|5,_|6,_|7,_|8,_=>rfl)) (by decide)
 obtain⟨w8,hw8⟩:∃y,y=w7.setCell ⟨w4.heap.size,4,none⟩ (.slice (some ⟨w6.heap.size,0,none⟩) 1 1):=⟨_,rfl⟩
 rw[<-hw8] at AJ Gg;have b0:=Gg 0 (by decide);have b1:=Gg 1 (by decide);have b2:=Gg 2 (by decide);have b3:=Gg 3 (by decide);have b4:=Gg 4 (by decide);have b5:=Gg 5 (by decide);have b6:=Gg 6 (by decide);have b7:=Gg 7 (by decide);have b8:=Gg 8 (by decide);have bl:=Nat.lt_of_lt_of_le yl AJ.size;have lK:=hide AJ;have e8':=hw8.symm;clear AJ Gg hw8;have HZ5:Hid (w4.heap.size<w5.heap.size/\w5.heap.size<=w6.heap.size):=⟨Zx.out.2.2,aR.size⟩;clear aR hO FY my h57 hbx hbz hw7;have h37:Fr nothing w3 w7:=aX.out.trans H57.out;obtain⟨-,-,hrc,hrz,hrl⟩:=jY.out w7 h37;have hz34:=gX.out.size;have hne:¬(w.heap.size+2=w4.heap.size):=by omega
 have Ll:∀j,w8.cell? ⟨w.heap.size+2,j,none⟩=oM[j]?:=fun j=>(lK.out.cell (p:=⟨w.heap.size+2,j,none⟩) hrl hne).trans (hrc j)
 have SK:∀j,w8.frozen? ⟨w.heap.size+2,j,none⟩=false:=fun j=>(lK.out.frozen (p:=⟨w.heap.size+2,j,none⟩) hrl hne).trans (hrz j)
 have hrl8:=Nat.lt_of_lt_of_le hrl lK.out.size;obtain⟨w9,h9,cA,cB,gT⟩:=Aw (w:=w8) (b:=w.heap.size+2) (f:=fun i=>oM.getD i (.int .i64 0)) (.int .i64 vV) (.int .i64 0) (.slice aY.a aY.n aY.c) (.slice bG.a bG.n bG.c) (.slice (some ⟨w6.heap.size,0,none⟩) 1 1) (.slice qh.a qh.n qh.c) (.int .i64 fuel) (.int .i64 cells) (.int .i64 hops) (fun i hi=>by
  rw[Ll i]
  match i,hi with
  |0,_|1,_|2,_|3,_|4,_|5,_|6,_|7,_|8,_=>rfl)
 have r0:=Ll 0;have r1:=Ll 1;have r2:=Ll 2;have r3:=Ll 3;have r4:=Ll 4;have r5:=Ll 5;have r6:=Ll 6;have r7:=Ll 7;have r8:=Ll 8;have u0:=SK 0;have u1':=SK 1;have u2':=SK 2;have u3':=SK 3;have u4':=SK 4;have u5':=SK 5;have u6':=SK 6;have u7':=SK 7;have u8':=SK 8;have H37:=hide h37;have nM:=hide gT;obtain⟨MI,ND,Py,PE,PG⟩:=cA;obtain⟨PI,PK,PL,PM⟩:=cB;have jw:=hide (And.intro (And.intro MI (And.intro ND (And.intro Py (And.intro PE PG)))) (And.intro PI (And.intro PK (And.intro PL PM))));clear MI ND Py PE PG PI PK PL PM Ll SK hrc hrz h37 gT hne
 go_wp2_with fail
 obtain⟨⟨g0,g1,g2,g3,g4⟩,g5,g6,g7,g8⟩:=jw.out;refine bodyPost_ret (v:=.agg (gH (CZ vV p n fuel cells hops) aY bG ⟨some ⟨w6.heap.size,0,none⟩,1,1⟩ qh)) (by simp[results,Tryz.results13,go_sem,g0,g1,g2,g3,g4,g5,g6,g7,g8,CZ]) rfl ?_
 have h48:Fr nothing w4 w8:=(HX.out.trans H57.out).then lK.out (fun j hj e=>by have e':j=w4.heap.size:=e;omega);have h49:Fr (fun k=>k<w3.heap.size\/B<=k) w4 w9:=(h48.mono (fun _ _ e=>e.elim)).trans (nM.out.mono (fun k _ e=> .inl (by have e':k=w.heap.size+2:=e;omega)))
 have hpz:=vC.out w9 h49;have hfw:Fr nothing w w9:=((dX.out.trans gX.out).trans h48).then nM.out (fun j hj e=>by have e':j=w.heap.size+2:=e;omega)
 have oJ:=HZ5.out;have hv:=((HO.out.new H67.out).fr lK.out (fun b hb e=>by have:=(HO.out.lt hb).1;have e':b=w4.heap.size:=e;omega)).fr nM.out (fun b hb e=>by have:=(HO.out.lt hb).1;have e':b=w.heap.size+2:=e;omega)
 have Gg:=(ZU.out.fr lK.out (fun k hk e=>by
  obtain⟨ao,m,c',e1,e2⟩:=hk;simp only[ai.v,Value.slice.injEq,Option.some.injEq] at e1;rw[<-e1.1] at e2;have e2':w6.heap.size=k:=e2;have e':k=w4.heap.size:=e;omega)).fr nM.out (fun k hk e=>by
  obtain⟨ao,m,c',e1,e2⟩:=hk;simp only[ai.v,Value.slice.injEq,Option.some.injEq] at e1;rw[<-e1.1] at e2;have e2':w6.heap.size=k:=e2;have e':k=w.heap.size+2:=e;omega)
 refine⟨aY,bG,_,qh,rfl,hfw,hpz,⟨_,Gg,rfl,fun i r x e1 e2=>?_⟩,?_⟩
 ·have hi:i=0:=by have:=(List.getElem?_eq_some_iff.1 e1).1;simp at this;omega
  subst hi;simp only[List.getElem?_cons_zero,Option.some.injEq] at e1;have e2':(⟨0,0,List.replicate n v0,[]⟩:Fm)=x:=by simpa[CZ] using e2
  subst e1 e2';exact⟨rfl,rfl,hv.sl aK,gN _ _ _⟩
 ·obtain⟨ao,cap,e,m,-⟩:=NC.out.hp.sl bY;exact⟨ao,cap,e,m,fun i x h=>by cases h⟩
end
end Go.Proofs.YtbcadjgpcfmkfaaGreatDoor
