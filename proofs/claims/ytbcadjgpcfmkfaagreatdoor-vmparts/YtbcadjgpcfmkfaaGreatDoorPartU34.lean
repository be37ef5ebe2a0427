/- ExprF; ExprQ; Expr. -/
import Derived.Test.YtbcadjgpcfmkfaaGreatDoorPartU29
import Derived.Test.YtbcadjgpcfmkfaaGreatDoorPartU33
import Derived.Test.YtbcadjgpcfmkfaaGreatDoorPartU30
import Derived.Test.YtbcadjgpcfmkfaaGreatDoorPartU1
set_option maxHeartbeats 0
set_option maxRecDepth 100000
set_option linter.unusedSimpArgs false
namespace Go.Proofs.YtbcadjgpcfmkfaaGreatDoor
open Go Go.RowKit
section
structure X4 (bx:Nat) (s:Scan) (a:Value) (w:World):Prop where
 c0:w.cell? ⟨bx,0,none⟩=some (.int .i64 s.k)
 c1:w.cell? ⟨bx,1,none⟩=some (.int .i64 s.n)
 c2:w.cell? ⟨bx,2,none⟩=some (.string (bs s.t))
 c3:w.cell? ⟨bx,3,none⟩=some a
 f:∀j,w.frozen? ⟨bx,j,none⟩=false
 lt:bx<w.heap.size
theorem X4.put {bx:Nat} {s:Scan} {a:Value} {w:World} (h:X4 bx s a w) (s':Scan) (a':Value):X4 bx s' a' (dP w bx 0 [.int .i64 s'.k,.int .i64 s'.n,.string (bs s'.t),a']):=by
 have hlt:=h.lt;refine⟨?_,?_,?_,?_,fun j=>(iC).trans (h.f j),by simpa[dP,World.setCell] using hlt⟩
 ·simp[dP,go_sem,h.c0]
 ·simp[dP,go_sem,h.c1]
 ·simp[dP,go_sem,h.c2]
 ·simp[dP,go_sem,h.c3]
theorem X4.fr {bx:Nat} {s:Scan} {a:Value} {w w':World} {S:Nat->Prop} (h:X4 bx s a w) (hf:Fr S w w') (hs:¬S bx):X4 bx s a w':=
 ⟨(hf.cell (p:=⟨bx,0,none⟩) h.lt hs).trans h.c0,(hf.cell (p:=⟨bx,1,none⟩) h.lt hs).trans h.c1,(hf.cell (p:=⟨bx,2,none⟩) h.lt hs).trans h.c2,(hf.cell (p:=⟨bx,3,none⟩) h.lt hs).trans h.c3,fun j=>(hf.frozen (p:=⟨bx,j,none⟩) h.lt hs).trans (h.f j),Nat.lt_of_lt_of_le h.lt hf.size⟩
theorem zN:∀k,k<6->(#[Value.int .i64 2,.int .i64 1,.int .i64 1,.int .i64 1,.int .i64 0,.int .i64 1]:Array Value)[k]?=some (.int .i64 (oW.getD k 0))
 |0,_=>rfl
 |1,_=>rfl
 |2,_=>rfl
 |3,_=>rfl
 |4,_=>rfl
 |5,_=>rfl
 |n+6,h=>by omega
theorem Fb (w0:World) (rb:Nat) (d:Int) (one:Reader Ex) (N:Nat) (hN:1502<=N) (hless:Less one) (hsmall:Small one) (hd0:0<=d) (hd:d<=10)
 (hone:∀l w,Pw w0 rb l 0 w->Calls Tryz.prog 80 #[.pointer (some ⟨rb,0,none⟩),.int .i64 (d+1)] w (cO ev bF rb w (one l 0)))
 (bp bd bx:Nat) (s:Scan) (l:Bs) (z:Int) (w1:World) (hp:Pw w0 rb l z w1) (hx:X4 bx s (.slice none 0 0) w1) (hcp:w1.cell? ⟨bp,0,none⟩=some (.pointer (some ⟨rb,0,none⟩))) (hcd:w1.cell? ⟨bd,0,none⟩=some (.int .i64 d))
 (hne:bp≠rb/\bp≠bx/\bd≠rb/\bd≠bx/\bx≠rb) (hw0:w0.heap.size<=bx):
 Calls Tryz.prog 56 #[.pointer (some ⟨rb,0,none⟩),.func (.func 84) #[] #[.pointer (some ⟨bx,0,none⟩),.pointer (some ⟨bp,0,none⟩),.pointer (some ⟨bd,0,none⟩)]] w1
  fun e w'=>e=.returned (.tuple #[])/\JL w0 rb 139 4 fQ bF w1 bx 3 (aB one N l z).v (aB one N l z).l (aB one N l z).z w':=by
 have hJ0:JL w0 rb 139 4 fQ bF w1 bx 3 [] l z w1:=
  {pw:=hp,fr:=Fr.refl _ _,fz:=fun _=>rfl,old:=fun _ _=>rfl,le:=fun _=>by have:=hp.len;simpa using this,row:=⟨aN,hx.c3,Row.nil _ (Nat.le_refl _)⟩}
 have qX:=hp.vE.size;have oP:=hp.pr.lt;have aaL:=hx.lt;exact Uf rb _ _ _ one (JL w0 rb 139 4 fQ bF w1 bx 3) hless hsmall (fun acc l z w h=>⟨h.pw.pr,h.pw.len⟩)
  (fun acc l l' z z' w w' h hp hl hz hf=>h.move av aaL oP hne.2.2.2.2 hp hl hz hf)
  (fun acc l w h=>clE w0 rb w1 bp bd bx d one acc l w hone hless hsmall hd0 (by omega) hcp hcd aaL oP hne ⟨hw0,qX⟩ (hx.f 3) h)
  N [] l z w1 hJ0 (by omega) (fun _=>by have:=hp.len;omega)
theorem jC {w0:World} {rb bx:Nat} {d:Int} {w wU w9 mW:World} {s:Scan} {xs:List Ex} {l l2:Bs} {z z2:Int} {sl:ai} (hrb:rb<w.heap.size) (hbx:w.heap.size+1+1<bx) (hFU:Fr (at_ rb) (lI w rb d) wU) (hJ:JL w0 rb 139 4 fQ bF wU bx 3 xs l z w9)
 (hc:w9.cell? ⟨bx,3,none⟩=some sl.v) (hF:Fr (at_ rb) w9 mW) (hP:Pr rb l2 z2 mW) (u0 u1 u2 u3:Value):
 cO ev bF rb w ⟨.mk s.k s.n s.t xs,l2,z2⟩ (.returned (ev ⟨s.k,s.n,s.t,sl⟩)) ((((mW.setCell ⟨w.heap.size+1+1,0,none⟩ u0).setCell ⟨w.heap.size+1+1,1,none⟩ u1).setCell ⟨w.heap.size+1+1,2,none⟩ u2).setCell ⟨w.heap.size+1+1,3,none⟩ u3):=by
 obtain⟨s',h1,h2⟩:=hJ.row;have hUz:=hFU.size;simp at hUz
 obtain rfl:s'=sl:=by
  rw[h1] at hc;have e:=Option.some.inj hc;simp only[Value.slice.injEq] at e;obtain⟨a,b,c⟩:=s';obtain⟨a',b',c'⟩:=sl;simp only at e;obtain⟨rfl,rfl,rfl⟩:=e;rfl
 have iI:Fr (at_ rb) (lI w rb d) mW:=(hFU.then hJ.fr (fun j hj e=>by
  simp at hj
  rcases e with e|e
  ·exact e
  ·omega)).trans hF
 have h3:=h2.fr av hF (fun k e=>by have:k=rb:=e;show k<_;omega);obtain⟨rs,k1,k2,k3⟩:=h3.done av dI (B:=w.heap.size+1+1+1) (by omega);refine kI (res:=⟨.mk s.k s.n s.t xs,l2,z2⟩) hrb iI hP (.mk _ _ _ _ rs xs k1 (fun b hb=>by have:=k2 b hb;omega) k3.1 (fun i r x a b=>av _ _ nothing _ _ _ _ (k3.2 i r x a b) (Fr.refl nothing _) (fun _ _=>id) (fun k hk=>by omega))) _ _ _ _
set_option maxHeartbeats 4000000 in
set_option maxRecDepth 20000 in
theorem Fe (w0:World) (rb:Nat) (l:Bs) (d:Int) (w:World) (h:Pw w0 rb l 0 w) (hd0:0<=d) (hd:d<=10) {t:Bs} (hs:skip l=40::t) (one:Reader Ex) (N:Nat) (hN:1502<=N) (hless:Less one) (hsmall:Small one)
 (hone:∀l w,Pw w0 rb l 0 w->Calls Tryz.prog 80 #[.pointer (some ⟨rb,0,none⟩),.int .i64 (d+1)] w (cO ev bF rb w (one l 0))):
 Calls Tryz.prog 80 #[.pointer (some ⟨rb,0,none⟩),.int .i64 d] w (cO ev bF rb w (formed (aB one N) t 0)):=by
 have HD:=hide (dN rb l 0 d _ (h.pr.fr (EY w rb d) (S:=nothing) id));have hrb:=h.pr.lt;have e0:bE d 0=0:=by simp[bE];omega
 rw[e0] at HD;have hl:=h.len;have htl:t.length+1<=l.length:=by have:=aG l;rw[hs] at this;simpa using this
 have HH:=hide h;have HS:=hide hs;have mg:=hide hone;have hsz:(bs (40::t)).size=t.length+1:=by rw[dz];rfl
 obtain⟨v,l1,z1,qO⟩:∃v l1 z1,Hid (word t 0=⟨v,l1,z1⟩):=⟨_,_,_,rfl⟩
 clear h e0 hs hone
 go_enter Tryz.func80,Tryz.ntmps80
 go_wp2_with (first
  |(go_at_call 79;refine HD.out.mono ?_;rintro e w2 ⟨rfl,hp,hf⟩;have hpk:=eP rb l 0 w2 hp hl;rw[HS.out,show((bS (40::t)).toNat:Int)=40 from rfl] at hpk;have oO:=hide hpk;obtain⟨b0,b1,-,-,-,-,-,-,-,-,hlt⟩:=boxes hrb hf;have HF:=hide hf;clear hp hf hpk)
  |(go_at_call 53;refine oO.out.mono ?_;rintro e w4 ⟨rfl,hp,hf⟩;have gm:=HF.out.trans hf;clear b0 b1 hlt;obtain⟨b0,b1,-,-,-,-,-,-,-,-,hlt⟩:=boxes hrb gm;have s0:=hp.s;have g0:=hp.f0;have hl4:=hp.lt;have Sa:=hide hp;have gX:=hide gm;clear hp hf gm))
 have hwd:∀w',Pr rb t 0 w'->Calls Tryz.prog 66 #[.pointer (some ⟨rb,0,none⟩)] w' fun e w''=>e=.returned (.string (bs v))/\Pr rb l1 z1 w''/\Fr (at_ rb) w' w'':=fun w' hp=>by
  have:=eU rb t 0 w' hp (by omega);rw[qO.out] at this;exact this
 have HWW:=hide hwd;clear hwd;have Cc:=hide (Sa.out.put' (sN 40 t (Nat.le_refl _))).drew;have FF:=hide (gX.out.setCell (p:=⟨rb,0,none⟩) (.inl rfl) (.string ((bs (40::t)).extract 1 (t.length+1)))).drew
 go_region
 all_goals go_wp2_with (first
  |(go_at_call 66;refine(HWW.out _ Cc.out).mono ?_;rintro e w5 ⟨rfl,hp,hf⟩;have cK:=FF.out.trans hf;clear b0 b1 hlt;obtain⟨b0,b1,-,-,-,-,-,-,-,-,hlt⟩:=boxes hrb cK;have zK:=hide hp;have aX:=hide cK;clear hp hf cK))
 have xU:w.heap.size+1+1<w5.heap.size:=hlt;have hX0:X4 w5.heap.size (oZ v 0) (.slice none 0 0) ((w5.alloc (.cells #[.int .i64 11,.int .i64 0,.string (bs v),.slice none 0 0] 139)).alloc (.cells (opsV jc) 9)):=by
  have hn:=af (Fr.refl nothing (w5.alloc (.cells #[.int .i64 11,.int .i64 0,.string (bs v),.slice none 0 0] 139))) id;exact X4.fr (S:=nothing) ⟨hn.1 0,hn.1 1,hn.1 2,hn.1 3,hn.2.1,hn.2.2⟩ ((Fr.refl nothing _).alloc _) id
 have hO1:∀k (hk:k<jc.length),((w5.alloc (.cells #[.int .i64 11,.int .i64 0,.string (bs v),.slice none 0 0] 139)).alloc (.cells (opsV jc) 9)).cell? ⟨w5.heap.size+1,k,none⟩=some (.string (bs jc[k])):=fun k hk=>by
  rw[show w5.heap.size+1=(w5.alloc (.cells #[.int .i64 11,.int .i64 0,.string (bs v),.slice none 0 0] 139)).heap.size by simp,World.cell?_alloc_new];exact Fa jc k hk
 have hFL:Fr (at_ rb) (lI w rb d) ((w5.alloc (.cells #[.int .i64 11,.int .i64 0,.string (bs v),.slice none 0 0] 139)).alloc (.cells (opsV jc) 9)):=(aX.out.alloc _).alloc _;have hPL:Pr rb l1 z1 ((w5.alloc (.cells #[.int .i64 11,.int .i64 0,.string (bs v),.slice none 0 0] 139)).alloc (.cells (opsV jc) 9)):=zK.out.fr (((Fr.refl nothing w5).alloc _).alloc _) id;have hsL:w5.heap.size+1<((w5.alloc (.cells #[.int .i64 11,.int .i64 0,.string (bs v),.slice none 0 0] 139)).alloc (.cells (opsV jc) 9)).heap.size:=by simp
 have hb5:rb<w5.heap.size:=zK.out.lt;have e1:(opsV jc)=#[.string ⟨#[43]⟩,.string ⟨#[45]⟩,.string ⟨#[42]⟩,.string ⟨#[60]⟩,.string ⟨#[61]⟩]:=rfl;rw[e1] at hX0 hO1 hFL hPL hsL;clear e1;generalize hwL:((w5.alloc (.cells #[.int .i64 11,.int .i64 0,.string (bs v),.slice none 0 0] 139)).alloc (.cells #[.string ⟨#[43]⟩,.string ⟨#[45]⟩,.string ⟨#[42]⟩,.string ⟨#[60]⟩,.string ⟨#[61]⟩] 9))=wL at hX0 hO1 hFL hPL hsL⊢;clear hwL;generalize hbx:w5.heap.size=bx at hX0 hO1 hsL hb5 xU⊢;clear hbx;have HX0:=hide hX0;have HO1:=hide hO1;have Un:=hide hFL;have HPL:=hide hPL;clear hX0 hO1 hFL hPL b0 b1 hlt zK aX Cc FF HWW Sa gX oO HF s0 g0 hl4
 go_loopw [134,13,14,15] (fun i want _ _ wr=>∃k:Nat,k<=5/\i=.int .i64 k/\want=.int .i64 (oZ v k).want/\Hid (X4 bx (oZ v k) (.slice none 0 0) wr/\Fr (fun j=>j=bx) wL wr)) (fun i _ _ _ _=>5-(intOf i).toNat)
 case atStart=>exact⟨0,Nat.zero_le _,rfl,rfl,HX0.out,Fr.refl _ _⟩
 case round=>
  obtain⟨k,hk,rfl,rfl,hR⟩:=hrel
  by_cases hk5:k<5
  ·have hko:k<jc.length:=hk5;have o1:=(hR.out.2.cell (p:=⟨bx+1,k,none⟩) hsL (by show ¬bx+1=bx;omega)).trans (HO1.out k hko)
   have hlr:bx+1<wr.heap.size:=Nat.lt_of_lt_of_le hsL hR.out.2.size
   by_cases hv:v=jc[k]
   ·have Uo:=hide (MU hko);rw[<-hv] at Uo o1;have x0:=hR.out.1.c0;have x1:=hR.out.1.c1;have x2:=hR.out.1.c2;have x3:=hR.out.1.c3;have y0:=hR.out.1.f 0;have y1:=hR.out.1.f 1;have y2:=hR.out.1.f 2;have y3:=hR.out.1.f 3;clear hv
    go_wp2
    refine⟨⟨k+1,by omega,by go_num,by rw[Uo.out],?_,?_⟩,by simp[intOf];omega⟩
    ·rw[Uo.out];exact hR.out.1.put ⟨4,(k:Int)+1,[],2⟩ (.slice none 0 0)
    ·exact Fr.dP (us:=[.int .i64 4,.int .i64 ((k:Int)+1),.string ⟨#[]⟩,.slice none 0 0]) (o:=0) (g:=bx) hR.out.2 (.inl rfl)
   ·have q1:=uW (fun e:jc[k]=v=>hv e.symm);have EC:=hide (JZ hko hv)
    go_wp2
    go_roundw
    case rel=>exact⟨k+1,by omega,by go_num,by rw[EC.out],by rw[EC.out];exact hR.out⟩
    case measure=>simp[intOf];omega
  ·obtain rfl:k=5:=by omega
   clear hk hk5;have hX:X4 bx (dK v 0) (.slice none 0 0) (wr.alloc (.cells (opsV iw) 9)):=X4.fr (S:=nothing) hR.out.1 ((Fr.refl nothing _).alloc _) id;have hO2:∀k (hk:k<iw.length),(wr.alloc (.cells (opsV iw) 9)).cell? ⟨wr.heap.size,k,none⟩=some (.string (bs iw[k])):=fun k hk=>by
    rw[World.cell?_alloc_new];exact Fa iw k hk
   have A9:Fr (fun j=>j=rb\/j=bx) wL (wr.alloc (.cells (opsV iw) 9)):=(hR.out.2.mono (fun _ _ e=> .inr e)).alloc _;have hF2:Fr (at_ rb) (lI w rb d) (wr.alloc (.cells (opsV iw) 9)):=(Un.out.then hR.out.2 (fun j hj e=>by have:j=bx:=e;simp at hj;omega)).alloc _
   have hP2:Pr rb l1 z1 (wr.alloc (.cells (opsV iw) 9)):=(HPL.out.fr hR.out.2 (by show ¬rb=bx;omega)).fr ((Fr.refl nothing _).alloc _) id;have hs2:wr.heap.size<(wr.alloc (.cells (opsV iw) 9)).heap.size:=by simp
   have hbw:bx<wr.heap.size:=hR.out.1.lt;have hwant:Hid ((oZ v 5).want=(dK v 0).want):=rfl;have e1:(opsV iw)=#[.string ⟨#[99,101,108,108]⟩,.string ⟨#[108,101,102,116]⟩,.string ⟨#[114,105,103,104,116]⟩,.string ⟨#[97,115,107]⟩,.string ⟨#[104,101,114,101]⟩,.string ⟨#[103,111]⟩]:=rfl;rw[e1] at hX hO2 A9 hF2 hP2 hs2;clear e1
   go_wp2
   generalize hwM:(wr.alloc (.cells #[.string ⟨#[99,101,108,108]⟩,.string ⟨#[108,101,102,116]⟩,.string ⟨#[114,105,103,104,116]⟩,.string ⟨#[97,115,107]⟩,.string ⟨#[104,101,114,101]⟩,.string ⟨#[103,111]⟩] 9))=wM at hX hO2 A9 hF2 hP2 hs2⊢;clear hwM;generalize hb2:wr.heap.size=b2 at hO2 hs2 hbw⊢;clear hb2;have HX:=hide hX;have Zh:=hide hO2;have bq:=hide hF2;have rD:=hide hP2;clear hX hO2 A9 hF2 hP2 hR HX0 HO1 Un HPL
   go_loopw [148,13,16,17] (fun i want _ _ ws=>∃k:Nat,k<=6/\i=.int .i64 k/\want=.int .i64 (dK v k).want/\Hid (X4 bx (dK v k) (.slice none 0 0) ws/\Fr (fun j=>j=bx) wM ws)) (fun i _ _ _ _=>6-(intOf i).toNat)
   case atStart=>exact⟨0,Nat.zero_le _,rfl,by rw[hwant.out],HX.out,Fr.refl _ _⟩
   case round=>
    obtain⟨k,hk,rfl,rfl,hR⟩:=hrel
    by_cases hk5:k<6
    ·have hko:k<iw.length:=hk5;have o1:=(hR.out.2.cell (p:=⟨b2,k,none⟩) hs2 (by show ¬b2=bx;omega)).trans (Zh.out k hko)
     have hlr:b2<wr.heap.size:=Nat.lt_of_lt_of_le hs2 hR.out.2.size
     by_cases hv:v=iw[k]
     ·have Uo:=hide (MV hko);rw[<-hv] at Uo o1;have x0:=hR.out.1.c0;have x1:=hR.out.1.c1;have x2:=hR.out.1.c2;have x3:=hR.out.1.c3;have y0:=hR.out.1.f 0;have y1:=hR.out.1.f 1;have y2:=hR.out.1.f 2;have y3:=hR.out.1.f 3;clear hv;have hbr:bx<wr.heap.size:=by omega
      have hw2:(wr.alloc (.cells #[.int .i64 2,.int .i64 1,.int .i64 1,.int .i64 1,.int .i64 0,.int .i64 1] 3)).cell? ⟨wr.heap.size,k,none⟩=some (.int .i64 (oW.getD k 0)):=by
       rw[World.cell?_alloc_new];exact zN k hk5
      have hg2:([Value.int .i64 2,.int .i64 1,.int .i64 1,.int .i64 1,.int .i64 0,.int .i64 1]:List Value)[k]'(by simp;omega)=.int .i64 (oW.getD k 0):=by
       have:=zN k hk5;rw[List.getElem?_toArray,List.getElem?_eq_getElem (by simp;omega)] at this
       exact Option.some.inj this
      generalize oW.getD k 0=wk at hw2 Uo hg2;have i0:(0:Int)<=(k:Int):=by omega
      have i6:(k:Int)<6:=by omega
      go_wp2_with fail
      go_region
      all_goals go_wp2
      all_goals refine⟨⟨k+1,by omega,by go_num,by first|rw[Uo.out]|(rw[hg2,Uo.out]),?_,?_⟩,by simp[intOf];omega⟩
      all_goals first
       |exact Fr.drew (Fr.alloc (Fr.dP (us:=[.int .i64 (5+(k:Int)),.int .i64 0,.string ⟨#[]⟩,.slice none 0 0]) (o:=0) (g:=bx) hR.out.2 (.inl rfl)) _)
       |(rw[Uo.out];exact(hR.out.1.put ⟨5+(k:Int),0,[],wk⟩ (.slice none 0 0)).fr (S:=nothing) ((Fr.refl nothing _).alloc _).drew id)
     ·have q1:=uW (fun e:iw[k]=v=>hv e.symm);have EC:=hide (J2 hko hv)
      go_wp2
      go_roundw
      case rel=>exact⟨k+1,by omega,by go_num,by rw[EC.out],by rw[EC.out];exact hR.out⟩
      case measure=>simp[intOf];omega
    ·obtain rfl:k=6:=by omega
     clear hk hk5;have iT:Fr (at_ rb) (lI w rb d) wr:=bq.out.then hR.out.2 (fun j hj e=>by have:j=bx:=e;simp at hj;omega)
     have hPr:Pr rb l1 z1 wr:=rD.out.fr hR.out.2 (by show ¬rb=bx;omega);have hXr:=hR.out.1;have hsm:l1.length<=t.length:=by have:=bU t 0;rw[qO.out] at this;exact this
     have UN:Hid (∀wU z2 q,aB one N l1 z2=q->Fr (at_ rb) (lI w rb d) wU->Pr rb l1 z2 wU->X4 bx (dK v 6) (.slice none 0 0) wU->Calls Tryz.prog 56 #[.pointer (some ⟨rb,0,none⟩),.func (.func 84) #[] #[.pointer (some ⟨bx,0,none⟩),.pointer (some ⟨w.heap.size,0,none⟩),.pointer (some ⟨w.heap.size+1,0,none⟩)]] wU
      fun e w'=>e=.returned (.tuple #[])/\JL w0 rb 139 4 fQ bF wU bx 3 q.v q.l q.z w'):=fun wU z2 q hq hf hp hx=>by
      subst hq;obtain⟨q0,q1,-⟩:=boxes hrb hf;have hge:=HH.out.ge;exact Fb w0 rb d one N hN hless hsmall hd0 hd mg.out w.heap.size (w.heap.size+1) bx (dK v 6) l1 z2 wU (HH.out.of hp (by omega) ((EY w rb d).trans hf)) hx q0 q1 ⟨by omega,by omega,by omega,by omega,by omega⟩ (by omega)
     have e6:=Um v;have sJ:=hide iT;have Zi:=hide hPr;have Lh:=hide hXr;obtain⟨b0,b1,-,-,-,-,-,-,-,-,hlt⟩:=boxes hrb iT;have hrbr:rb<wr.heap.size:=hPr.lt;have Yd:Hid (∀z2 q,j5 v z1=z2->aB one N l1 z2=q->formed (aB one N) t 0=⟨.mk (dK v 6).k (dK v 6).n (dK v 6).t q.v,q.l,if fI v q.v.length then bad q.z 5 else q.z⟩):=fun z2 q hz2 hq=>by
      unfold formed;simp only[qO.out,hz2,hq];rw[e6];rfl
     have Gm:=hide (fun w=>jL v w (by
      have:v=(word t 0).v:=by rw[qO.out]
      rw[this];exact Nat.le_trans (List.takeWhile_sublist _).length_le (Nat.le_trans (aG _) (by omega))))
     have hwn:(dK v 6).want=Dw (fA v).2.2:=by rw[e6]
     rw[hwn];clear iT hPr hXr e6 hwn hR HX Zh bq rD;cases hfm:(fA v).2.2 with
     |some n=>
      have hz2:j5 v z1=z1:=by simp[j5,hfm]
      obtain⟨q,hq⟩:∃q,aB one N l1 z1=q:=⟨_,rfl⟩
      have HQ:=hide hq;have RES:=hide (Yd.out z1 q hz2 hq);have hmb:fI v q.v.length=decide (q.v.length≠n):=by simp[fI,hfm]
      have hn0:(0:Int)<=(n:Int):=by omega
      have hn1:¬(n:Int)<0:=by omega
      clear hz2 hq hfm;simp only[Dw]
      by_cases hm:q.v.length=n
      ·rw[show fI v q.v.length=false by rw[hmb];simp[hm]] at RES;simp only[Bool.false_eq_true,if_false] at RES;have hm1:(q.v.length:Int)=(n:Int):=by omega
       have hm2:((q.v.length:Int) !=(n:Int))=false:=by simpa using hm1
       clear hmb hm;clear hm1
       go_wp2_with (first
        |(go_at_call 56;refine(UN.out _ _ _ HQ.out sJ.out Zi.out Lh.out).mono ?_;rintro e w9 ⟨rfl,hj⟩;obtain⟨⟨sa,sn,sc⟩,hc3,hrow⟩:=hj.row;obtain rfl:sn=q.v.length:=(by obtain⟨a,c,h⟩:=hrow.shape;cases h;rfl);have iI:Fr (at_ rb) (lI w rb d) w9:=sJ.out.then hj.fr (fun j hj e=>by simp at hj;rcases e with e|e;exact e;omega);have x0:=(hj.old 0 (by decide)).trans Lh.out.c0;have x1:=(hj.old 1 (by decide)).trans Lh.out.c1;have x2:=(hj.old 2 (by decide)).trans Lh.out.c2;have rE:bx<w9.heap.size:=Nat.lt_of_lt_of_le Lh.out.lt hj.fr.size;have kZ:=hj.le;have hpl:=hj.pw.pr.lt;clear b0 b1 hlt;obtain⟨b0,b1,c0,c1,c2,c3,f0,f1,f2,f3,hlt⟩:=boxes hrb iI;have Ca:=hide hj;have K5:=hide hc3;have nM:=hide iI;clear hj hrow iI kZ))
       refine bodyPost_ret (v:=ev ⟨(dK v 6).k,(dK v 6).n,(dK v 6).t,⟨sa,q.v.length,sc⟩⟩) (by simp[results,Tryz.results80,go_sem,c0,c1,c2,c3]) rfl ?_
       rw[RES.out];exact jC hrb (by omega) sJ.out Ca.out K5.out (Fr.refl _ _) Ca.out.pw.pr _ _ _ _
      ·rw[show fI v q.v.length=true by rw[hmb];simp[hm]] at RES;simp only[if_true] at RES;have hm1:¬(q.v.length:Int)=(n:Int):=by omega
       have hm2:=gF hm1;clear hmb hm
       go_wp2_with (first
        |(go_at_call 56;refine(UN.out _ _ _ HQ.out sJ.out Zi.out Lh.out).mono ?_;rintro e w9 ⟨rfl,hj⟩;obtain⟨⟨sa,sn,sc⟩,hc3,hrow⟩:=hj.row;obtain rfl:sn=q.v.length:=(by obtain⟨a,c,h⟩:=hrow.shape;cases h;rfl);have iI:Fr (at_ rb) (lI w rb d) w9:=sJ.out.then hj.fr (fun j hj e=>by simp at hj;rcases e with e|e;exact e;omega);have x0:=(hj.old 0 (by decide)).trans Lh.out.c0;have x1:=(hj.old 1 (by decide)).trans Lh.out.c1;have x2:=(hj.old 2 (by decide)).trans Lh.out.c2;have rE:bx<w9.heap.size:=Nat.lt_of_lt_of_le Lh.out.lt hj.fr.size;have kZ:=hj.le;have hpl:=hj.pw.pr.lt;clear b0 b1 hlt;obtain⟨b0,b1,c0,c1,c2,c3,f0,f1,f2,f3,hlt⟩:=boxes hrb iI;have Ca:=hide hj;have K5:=hide hc3;have nM:=hide iI;clear hj hrow iI kZ)
        |(go_at_call 65;refine(eT rb q.l q.z 5 _ Ca.out.pw.pr).mono ?_;rintro e mW ⟨rfl,hp,hf⟩;have Ff:=nM.out.trans hf;replace x0:=(hf.cell (p:=⟨bx,0,none⟩) rE (by show ¬bx=rb;omega)).trans x0;replace x1:=(hf.cell (p:=⟨bx,1,none⟩) rE (by show ¬bx=rb;omega)).trans x1;replace x2:=(hf.cell (p:=⟨bx,2,none⟩) rE (by show ¬bx=rb;omega)).trans x2;replace hc3:=(hf.cell (p:=⟨bx,3,none⟩) rE (by show ¬bx=rb;omega)).trans hc3;replace rE:=Nat.lt_of_lt_of_le rE hf.size;clear b0 b1 c0 c1 c2 c3 f0 f1 f2 f3 hlt;obtain⟨b0,b1,c0,c1,c2,c3,f0,f1,f2,f3,hlt⟩:=boxes hrb Ff;have Q0:=hide hp;have Fg:=hide hf;clear hp hf Ff))
       refine bodyPost_ret (v:=ev ⟨(dK v 6).k,(dK v 6).n,(dK v 6).t,⟨sa,q.v.length,sc⟩⟩) (by simp[results,Tryz.results80,go_sem,c0,c1,c2,c3]) rfl ?_
       rw[RES.out];exact jC hrb (by omega) sJ.out Ca.out K5.out Fg.out Q0.out _ _ _ _
     |none=>
      have hz2:j5 v z1=if isName v=false then bad z1 7 else z1:=by simp[j5,hfm]
      have hmb:∀n,fI v n=decide (4<n):=fun n=>by simp[fI,hfm]
      simp only[Dw];clear hfm;cases hnm:isName v with
      |true=>
       rw[hnm] at hz2 Gm;obtain⟨q,hq⟩:∃q,aB one N l1 (z1)=q:=⟨_,rfl⟩
       have HQ:=hide hq;have RES:=hide (Yd.out (z1) q (by rw[hz2];rfl) hq)
       have fe:=hmb q.v.length;clear hz2 hq hmb
       by_cases hm:4<q.v.length
       ·rw[show fI v q.v.length=true by rw[fe];simp[hm]] at RES;simp only[if_true] at RES;have hm1:(4:Int)<(q.v.length:Int):=by omega
        clear fe hm
        go_wp2_with (first
         |(go_at_call 67;refine(Gm.out _).mono ?_;rintro e w8 ⟨rfl,hfn⟩;have lK:=hide (sJ.out.trans (gK hfn rb));have wE:=hide (Zi.out.fr hfn id);have J3:=hide (Lh.out.fr hfn id);clear b0 b1 hlt;obtain⟨b0,b1,-,-,-,-,-,-,-,-,hlt⟩:=boxes hrb lK.out;have Ye:rb<w8.heap.size:=wE.out.lt;clear hfn)
         |(go_at_call 56;refine(UN.out _ _ _ HQ.out lK.out wE.out J3.out).mono ?_;rintro e w9 ⟨rfl,hj⟩;obtain⟨⟨sa,sn,sc⟩,hc3,hrow⟩:=hj.row;obtain rfl:sn=q.v.length:=(by obtain⟨a,c,h⟩:=hrow.shape;cases h;rfl);have iI:Fr (at_ rb) (lI w rb d) w9:=lK.out.then hj.fr (fun j hj e=>by simp at hj;rcases e with e|e;exact e;omega);have x0:=(hj.old 0 (by decide)).trans J3.out.c0;have x1:=(hj.old 1 (by decide)).trans J3.out.c1;have x2:=(hj.old 2 (by decide)).trans J3.out.c2;have rE:bx<w9.heap.size:=Nat.lt_of_lt_of_le J3.out.lt hj.fr.size;have kZ:=hj.le;have hpl:=hj.pw.pr.lt;clear b0 b1 hlt;obtain⟨b0,b1,c0,c1,c2,c3,f0,f1,f2,f3,hlt⟩:=boxes hrb iI;have Ca:=hide hj;have K5:=hide hc3;have nM:=hide iI;clear hj hrow iI kZ)
         |(go_at_call 65;refine(eT rb q.l q.z 5 _ Ca.out.pw.pr).mono ?_;rintro e mW ⟨rfl,hp,hf⟩;have Ff:=nM.out.trans hf;replace x0:=(hf.cell (p:=⟨bx,0,none⟩) rE (by show ¬bx=rb;omega)).trans x0;replace x1:=(hf.cell (p:=⟨bx,1,none⟩) rE (by show ¬bx=rb;omega)).trans x1;replace x2:=(hf.cell (p:=⟨bx,2,none⟩) rE (by show ¬bx=rb;omega)).trans x2;replace hc3:=(hf.cell (p:=⟨bx,3,none⟩) rE (by show ¬bx=rb;omega)).trans hc3;replace rE:=Nat.lt_of_lt_of_le rE hf.size;clear b0 b1 c0 c1 c2 c3 f0 f1 f2 f3 hlt;obtain⟨b0,b1,c0,c1,c2,c3,f0,f1,f2,f3,hlt⟩:=boxes hrb Ff;have Q0:=hide hp;have Fg:=hide hf;clear hp hf Ff))
        refine bodyPost_ret (v:=ev ⟨(dK v 6).k,(dK v 6).n,(dK v 6).t,⟨sa,q.v.length,sc⟩⟩) (by simp[results,Tryz.results80,go_sem,c0,c1,c2,c3]) rfl ?_
        rw[RES.out];exact jC hrb (by omega) lK.out Ca.out K5.out Fg.out Q0.out _ _ _ _
       ·rw[show fI v q.v.length=false by rw[fe];simp[hm]] at RES;simp only[Bool.false_eq_true,if_false] at RES;have hm1:¬(4:Int)<(q.v.length:Int):=by omega
        clear fe hm
        go_wp2_with (first
         |(go_at_call 67;refine(Gm.out _).mono ?_;rintro e w8 ⟨rfl,hfn⟩;have lK:=hide (sJ.out.trans (gK hfn rb));have wE:=hide (Zi.out.fr hfn id);have J3:=hide (Lh.out.fr hfn id);clear b0 b1 hlt;obtain⟨b0,b1,-,-,-,-,-,-,-,-,hlt⟩:=boxes hrb lK.out;have Ye:rb<w8.heap.size:=wE.out.lt;clear hfn)
         |(go_at_call 56;refine(UN.out _ _ _ HQ.out lK.out wE.out J3.out).mono ?_;rintro e w9 ⟨rfl,hj⟩;obtain⟨⟨sa,sn,sc⟩,hc3,hrow⟩:=hj.row;obtain rfl:sn=q.v.length:=(by obtain⟨a,c,h⟩:=hrow.shape;cases h;rfl);have iI:Fr (at_ rb) (lI w rb d) w9:=lK.out.then hj.fr (fun j hj e=>by simp at hj;rcases e with e|e;exact e;omega);have x0:=(hj.old 0 (by decide)).trans J3.out.c0;have x1:=(hj.old 1 (by decide)).trans J3.out.c1;have x2:=(hj.old 2 (by decide)).trans J3.out.c2;have rE:bx<w9.heap.size:=Nat.lt_of_lt_of_le J3.out.lt hj.fr.size;have kZ:=hj.le;have hpl:=hj.pw.pr.lt;clear b0 b1 hlt;obtain⟨b0,b1,c0,c1,c2,c3,f0,f1,f2,f3,hlt⟩:=boxes hrb iI;have Ca:=hide hj;have K5:=hide hc3;have nM:=hide iI;clear hj hrow iI kZ))
        refine bodyPost_ret (v:=ev ⟨(dK v 6).k,(dK v 6).n,(dK v 6).t,⟨sa,q.v.length,sc⟩⟩) (by simp[results,Tryz.results80,go_sem,c0,c1,c2,c3]) rfl ?_
        rw[RES.out];exact jC hrb (by omega) lK.out Ca.out K5.out (Fr.refl _ _) Ca.out.pw.pr _ _ _ _
      |false=>
       rw[hnm] at hz2 Gm;obtain⟨q,hq⟩:∃q,aB one N l1 (bad z1 7)=q:=⟨_,rfl⟩
       have HQ:=hide hq;have RES:=hide (Yd.out (bad z1 7) q (by rw[hz2];rfl) hq)
       have fe:=hmb q.v.length;clear hz2 hq hmb
       by_cases hm:4<q.v.length
       ·rw[show fI v q.v.length=true by rw[fe];simp[hm]] at RES;simp only[if_true] at RES;have hm1:(4:Int)<(q.v.length:Int):=by omega
        clear fe hm
        go_wp2_with (first
         |(go_at_call 67;refine(Gm.out _).mono ?_;rintro e w8 ⟨rfl,hfn⟩;have lK:=hide (sJ.out.trans (gK hfn rb));have wE:=hide (Zi.out.fr hfn id);have J3:=hide (Lh.out.fr hfn id);clear b0 b1 hlt;obtain⟨b0,b1,-,-,-,-,-,-,-,-,hlt⟩:=boxes hrb lK.out;have Ye:rb<w8.heap.size:=wE.out.lt;clear hfn)
         |(go_at_call 56;refine(UN.out _ _ _ HQ.out dH.out Du.out J4.out).mono ?_;rintro e w9 ⟨rfl,hj⟩;obtain⟨⟨sa,sn,sc⟩,hc3,hrow⟩:=hj.row;obtain rfl:sn=q.v.length:=(by obtain⟨a,c,h⟩:=hrow.shape;cases h;rfl);have iI:Fr (at_ rb) (lI w rb d) w9:=dH.out.then hj.fr (fun j hj e=>by simp at hj;rcases e with e|e;exact e;omega);have x0:=(hj.old 0 (by decide)).trans J4.out.c0;have x1:=(hj.old 1 (by decide)).trans J4.out.c1;have x2:=(hj.old 2 (by decide)).trans J4.out.c2;have rE:bx<w9.heap.size:=Nat.lt_of_lt_of_le J4.out.lt hj.fr.size;have kZ:=hj.le;have hpl:=hj.pw.pr.lt;clear b0 b1 hlt;obtain⟨b0,b1,c0,c1,c2,c3,f0,f1,f2,f3,hlt⟩:=boxes hrb iI;have Ca:=hide hj;have K5:=hide hc3;have nM:=hide iI;clear hj hrow iI kZ)
         |(go_at_call 65;refine(eT rb q.l q.z 5 _ Ca.out.pw.pr).mono ?_;rintro e mW ⟨rfl,hp,hf⟩;have Ff:=nM.out.trans hf;replace x0:=(hf.cell (p:=⟨bx,0,none⟩) rE (by show ¬bx=rb;omega)).trans x0;replace x1:=(hf.cell (p:=⟨bx,1,none⟩) rE (by show ¬bx=rb;omega)).trans x1;replace x2:=(hf.cell (p:=⟨bx,2,none⟩) rE (by show ¬bx=rb;omega)).trans x2;replace hc3:=(hf.cell (p:=⟨bx,3,none⟩) rE (by show ¬bx=rb;omega)).trans hc3;replace rE:=Nat.lt_of_lt_of_le rE hf.size;clear b0 b1 c0 c1 c2 c3 f0 f1 f2 f3 hlt;obtain⟨b0,b1,c0,c1,c2,c3,f0,f1,f2,f3,hlt⟩:=boxes hrb Ff;have Q0:=hide hp;have Fg:=hide hf;clear hp hf Ff)
         |(go_at_call 65;refine(eT rb l1 z1 7 _ wE.out).mono ?_;rintro e wb ⟨rfl,hp,hf⟩;have dH:=hide (lK.out.trans hf);have Du:=hide hp;have J4:=hide (J3.out.fr hf (by show ¬bx=rb;omega));clear b0 b1 hlt;obtain⟨b0,b1,-,-,-,-,-,-,-,-,hlt⟩:=boxes hrb dH.out;have acv:rb<wb.heap.size:=Du.out.lt;clear hp hf))
        refine bodyPost_ret (v:=ev ⟨(dK v 6).k,(dK v 6).n,(dK v 6).t,⟨sa,q.v.length,sc⟩⟩) (by simp[results,Tryz.results80,go_sem,c0,c1,c2,c3]) rfl ?_
        rw[RES.out];exact jC hrb (by omega) dH.out Ca.out K5.out Fg.out Q0.out _ _ _ _
       ·rw[show fI v q.v.length=false by rw[fe];simp[hm]] at RES;simp only[Bool.false_eq_true,if_false] at RES;have hm1:¬(4:Int)<(q.v.length:Int):=by omega
        clear fe hm
        go_wp2_with (first
         |(go_at_call 67;refine(Gm.out _).mono ?_;rintro e w8 ⟨rfl,hfn⟩;have lK:=hide (sJ.out.trans (gK hfn rb));have wE:=hide (Zi.out.fr hfn id);have J3:=hide (Lh.out.fr hfn id);clear b0 b1 hlt;obtain⟨b0,b1,-,-,-,-,-,-,-,-,hlt⟩:=boxes hrb lK.out;have Ye:rb<w8.heap.size:=wE.out.lt;clear hfn)
         |(go_at_call 56;refine(UN.out _ _ _ HQ.out dH.out Du.out J4.out).mono ?_;rintro e w9 ⟨rfl,hj⟩;obtain⟨⟨sa,sn,sc⟩,hc3,hrow⟩:=hj.row;obtain rfl:sn=q.v.length:=(by obtain⟨a,c,h⟩:=hrow.shape;cases h;rfl);have iI:Fr (at_ rb) (lI w rb d) w9:=dH.out.then hj.fr (fun j hj e=>by simp at hj;rcases e with e|e;exact e;omega);have x0:=(hj.old 0 (by decide)).trans J4.out.c0;have x1:=(hj.old 1 (by decide)).trans J4.out.c1;have x2:=(hj.old 2 (by decide)).trans J4.out.c2;have rE:bx<w9.heap.size:=Nat.lt_of_lt_of_le J4.out.lt hj.fr.size;have kZ:=hj.le;have hpl:=hj.pw.pr.lt;clear b0 b1 hlt;obtain⟨b0,b1,c0,c1,c2,c3,f0,f1,f2,f3,hlt⟩:=boxes hrb iI;have Ca:=hide hj;have K5:=hide hc3;have nM:=hide iI;clear hj hrow iI kZ)
         |(go_at_call 65;refine(eT rb l1 z1 7 _ wE.out).mono ?_;rintro e wb ⟨rfl,hp,hf⟩;have dH:=hide (lK.out.trans hf);have Du:=hide hp;have J4:=hide (J3.out.fr hf (by show ¬bx=rb;omega));clear b0 b1 hlt;obtain⟨b0,b1,-,-,-,-,-,-,-,-,hlt⟩:=boxes hrb dH.out;have acv:rb<wb.heap.size:=Du.out.lt;clear hp hf))
        refine bodyPost_ret (v:=ev ⟨(dK v 6).k,(dK v 6).n,(dK v 6).t,⟨sa,q.v.length,sc⟩⟩) (by simp[results,Tryz.results80,go_sem,c0,c1,c2,c3]) rfl ?_
        rw[RES.out];exact jC hrb (by omega) dH.out Ca.out K5.out (Fr.refl _ _) Ca.out.pw.pr _ _ _ _
end
section
theorem Uq {c:UInt8} (h:Gn c=true):¬(c.toNat:Int)=39:=BX (d:=39) rfl (by simpa[Gn] using h)
theorem Yf {c:UInt8} (h:Gn c=false):c=39:=by simpa[Gn] using h
theorem cO.drew {rb:Nat} {w:World} {res:Rd Ex} {e:Ending} {w':World} (h:cO ev bF rb w res e w'):cO ev bF rb w res e w'.drew:=by
 obtain⟨r,h1,h2,h3,h4⟩:=h;exact⟨r,h1,h2.drew,h3.drew,av _ _ nothing _ _ _ _ h4 (Fr.refl nothing w').drew (fun _ _=>id) (fun _ hk=>hk)⟩
set_option maxHeartbeats 1000000 in
set_option maxRecDepth 20000 in
theorem J5 (rb:Nat) (l:Bs) (d:Int) (w:World) (h:Pr rb l 0 w) (hl:l.length<=1500) (hd:d<=10) {t:Bs} (hs:skip l=39::t):
 Calls Tryz.prog 80 #[.pointer (some ⟨rb,0,none⟩),.int .i64 d] w (cO ev bF rb w (quoted t 0)):=by
 have HD:=hide (dN rb l 0 d _ (h.fr (EY w rb d) (S:=nothing) id));have hrb:=h.lt;have e0:bE d 0=0:=by simp[bE];omega
 rw[e0] at HD;have htl:t.length+1<=1500:=by have:=aG l;rw[hs] at this;simp at this;omega
 have HS:=hide hs;clear h e0 hs;have hsz:(bs (39::t)).size=t.length+1:=by rw[dz];rfl
 go_enter Tryz.func80,Tryz.ntmps80
 go_wp2_with (first
  |(go_at_call 79;refine HD.out.mono ?_;rintro e w2 ⟨rfl,hp,hf⟩;have hpk:=eP rb l 0 w2 hp hl;rw[HS.out,show((bS (39::t)).toNat:Int)=39 from rfl] at hpk;have oO:=hide hpk;obtain⟨b0,b1,-,-,-,-,-,-,-,-,hlt⟩:=boxes hrb hf;have HF:=hide hf;clear hp hf hpk)
  |(go_at_call 53;refine oO.out.mono ?_;rintro e w4 ⟨rfl,hp,hf⟩;have gm:=HF.out.trans hf;clear b0 b1 hlt;obtain⟨b0,b1,c0,c1,c2,c3,f0,f1,f2,f3,hlt⟩:=boxes hrb gm;have s0:=hp.s;have s1:=hp.e;have g0:=hp.f0;have g1:=hp.f1;have hl4:=hp.lt;have Sa:=hide hp;have gX:=hide gm;clear hp hf gm))
 have hrw:¬w.heap.size=rb:=by omega
 go_loop [6] (fun i=>∃j:Nat,j<=t.length/\i=.int .i64 ((1+j:Nat):Int)/\Hid ((t.take j).all Gn=true)) (fun i=>t.length+1-(intOf i).toNat)
 case atStart=>exact⟨0,Nat.zero_le _,rfl,rfl⟩
 case round=>
  obtain⟨j,hj,rfl,hall⟩:=hrel;have stop:(∀c,t[j]?=some c->Gn c=false)->t.takeWhile Gn=t.take j/\t.dropWhile Gn=t.drop j:=qR hall.out
  by_cases hjl:j<t.length
  ·have hz:((1+j:Nat):Int)<((bs (39::t)).size:Int):=by rw[hsz];omega
   have hz':1+j<(bs (39::t)).size:=by rw[hsz];omega
   generalize hc:(bs (39::t))[1+j]'hz'=c;have Aj:Hid (t[j]=c):=by
    have h1:(bs (39::t))[1+j]'hz'=(39::t)[1+j]'(by simp;omega):=rfl;show t[j]=c
    rw[<-hc,h1];simp[Nat.add_comm 1 j]
   have HG:Hid (t[j]?=some c):=by show t[j]?=some c;rw[List.getElem?_eq_getElem hjl];exact congrArg some Aj.out
   cases hw:Gn c with
   |true=>
    have n1:=Uq hw;have b1:=gF n1;have HL:=hide (nU hall.out hjl Aj.out hw);clear hw stop
    go_wp2
    go_round
    case rel=>exact⟨j+1,by omega,by go_num,HL⟩
    case measure=>simp[intOf];omega
   |false=>
    have HST:=hide (stop (fun c' h'=>by rw[HG.out] at h';cases h';exact hw));have hq:=Yf hw;clear stop hw;subst hq;have hdj:t.drop j=39::t.drop (j+1):=by rw[List.drop_eq_getElem_cons hjl,Aj.out]
    have hQ:quoted t 0=⟨.mk 2 0 (t.take j) [],t.drop (j+1),if isWord (t.take j) then 0 else bad 0 2⟩:=by
     unfold quoted;rw[HST.out.1,HST.out.2,hdj]
    have HW:=hide (fun w=>JR (t.take j) w (by rw[List.length_take];omega));have hne:¬((1+j:Nat):Int)=((bs (39::t)).size:Int):=by omega
    have ee1:(bs (39::t)).extract 1 (1+j)=bs (t.take j):=by
     rw[nk,vQ]
     congr 1
     simp only[List.drop_succ_cons,List.drop_zero]
     congr 1
     omega
    have ee2:∀b,t.length+1<=b->(bs (39::t)).extract (1+j+1) b=bs (t.drop (j+1)):=fun b hb=>by
     rw[sP (39::t) (by simpa using hb)]
     congr 1
     rw[show 1+j+1=(j+1)+1 by omega,List.drop_succ_cons]
    have HE2:=hide ee2;have HQ:=hide hQ;clear hdj HST HG Aj hall hQ ee2;generalize hv:t.take j=v at*;cases hq:isWord v with
    |true=>
     rw[hq] at HW HQ;have HQ2:Hid (quoted t 0=⟨.mk 2 0 v [],t.drop (j+1),0⟩):=HQ.out;clear HQ
     go_wp2_with (first|(go_at_call 61;refine(HW.out _).mono ?_;rintro e w5 ⟨rfl,rfl⟩))
     go_region
     all_goals go_wp2_with (first|(go_at_call 61;refine(HW.out _).mono ?_;rintro e w5 ⟨rfl,rfl⟩))
     all_goals refine bodyPost_ret (v:=ev ⟨2,0,v,aN⟩) (by simp[results,Tryz.results80,go_sem,c0,c1,c2,c3]) rfl ?_
     all_goals rw[HQ2.out]
     all_goals exact(kI (res:=⟨.mk 2 0 v [],t.drop (j+1),0⟩) hrb (gX.out.setCell (p:=⟨rb,0,none⟩) (.inl rfl) _) (Sa.out.put' (HE2.out _ (Nat.le_refl _))) (jD _ _ _ _ _) _ _ _ _).drew
    |false=>
     rw[hq] at HW HQ;have HQ2:Hid (quoted t 0=⟨.mk 2 0 v [],t.drop (j+1),bad 0 2⟩):=HQ.out;clear HQ
     go_wp2_with (first|(go_at_call 61;refine(HW.out _).mono ?_;rintro e w5 ⟨rfl,rfl⟩))
     go_region
     all_goals go_wp2_with (first
      |(go_at_call 61;refine(HW.out _).mono ?_;rintro e w5 ⟨rfl,rfl⟩;have Cc:=hide (Sa.out.put' (HE2.out _ (Nat.le_refl _))).drew;have FF:=hide (gX.out.setCell (p:=⟨rb,0,none⟩) (.inl rfl) (.string ((bs (39::t)).extract (1+j+1) (t.length+1)))).drew)
      |(go_at_call 65;refine(eT rb (t.drop (j+1)) 0 2 _ Cc.out).mono ?_;rintro e w7 ⟨rfl,hp,hf⟩;have dZ:=FF.out.trans hf;clear b0 b1 c0 c1 c2 c3 f0 f1 f2 f3 hlt;obtain⟨b0,b1,c0,c1,c2,c3,f0,f1,f2,f3,hlt⟩:=boxes hrb dZ;have Du:=hide hp;have dH:=hide dZ;clear hp hf dZ))
     all_goals refine bodyPost_ret (v:=ev ⟨2,0,v,aN⟩) (by simp[results,Tryz.results80,go_sem,c0,c1,c2,c3]) rfl ?_
     all_goals rw[HQ2.out]
     all_goals exact kI (res:=⟨.mk 2 0 v [],t.drop (j+1),bad 0 2⟩) hrb dH.out Du.out (jD _ _ _ _ _) _ _ _ _
  ·have hjt:j=t.length:=by omega
   have HST:=hide (stop (fun c' h'=>by rw[List.getElem?_eq_none (by omega)] at h';cases h'));have HQ:Hid (quoted t 0=⟨.mk 2 0 [] [],t,bad 0 8⟩):=by
    show quoted t 0=_
    unfold quoted;rw[HST.out.2,List.drop_of_length_le (by omega)]
   clear stop hall HST;have hz:¬((1+j:Nat):Int)<((bs (39::t)).size:Int):=by rw[hsz];omega
   have hze:((1+j:Nat):Int)=((bs (39::t)).size:Int):=by rw[hsz];omega
   subst hjt;clear hz hze;have ha:(1:Int)+(t.length:Int)=(t.length:Int)+1:=by omega
   have Cc:=hide (Sa.out.put' (sN 39 t (Nat.le_refl _))).drew;have FF:=hide (gX.out.setCell (p:=⟨rb,0,none⟩) (.inl rfl) (.string ((bs (39::t)).extract 1 (t.length+1)))).drew
   go_wp2_with fail
   go_region
   all_goals go_wp2_with (first
    |(go_at_call 65;refine(eT rb t 0 8 _ Cc.out).mono ?_;rintro e w7 ⟨rfl,hp,hf⟩;have dZ:=FF.out.trans hf;clear b0 b1 c0 c1 c2 c3 f0 f1 f2 f3 hlt;obtain⟨b0,b1,c0,c1,c2,c3,f0,f1,f2,f3,hlt⟩:=boxes hrb dZ;have Du:=hide hp;have dH:=hide dZ;clear hp hf dZ))
   all_goals refine bodyPost_ret (v:=ev ⟨2,0,[],aN⟩) (by simp[results,Tryz.results80,go_sem,c0,c1,c2,c3,bs]) rfl ?_
   all_goals rw[HQ.out]
   all_goals exact kI (res:=⟨.mk 2 0 [] [],t,bad 0 8⟩) hrb dH.out Du.out (jD _ _ _ _ _) _ _ _ _
end
section
theorem Ce (w0:World) (rb:Nat) (l:Bs) (d:Int) (w:World) (h:Pw w0 rb l 0 w) (hd:d<=10) (wC:(skip l).head?≠some 39) (wD:(skip l).head?≠some 40):
 Calls Tryz.prog 80 #[.pointer (some ⟨rb,0,none⟩),.int .i64 d] w (cO ev bF rb w (single (skip l) 0)):=by
 obtain⟨v,l',z,hw⟩:∃v l' z,word (skip l) 0=⟨v,l',z⟩:=⟨_,_,_,rfl⟩
 have e:single (skip l) 0=⟨kQ v,l',eu v z⟩:=by unfold single;rw[hw]
 rw[e]
 by_cases hA:∃n,Lib.atoiAll v=.ok n
 ·obtain⟨n,hA⟩:=hA;have hn:=QF hA
  by_cases hI:Lib.itoa n=v
  ·rw[if_pos hI] at hn;cases hi:wN n with
   |true=>
    have e1:kQ v=.mk 1 n [] []:=by simp[kQ,hn]
    have e2:eu v z=z:=by simp[eu,hn,hi]
    rw[e1,e2];exact AZ w0 rb l d w h hd wC wD hw hA hI hi
   |false=>
    have e1:kQ v=.mk 1 n [] []:=by simp[kQ,hn]
    have e2:eu v z=bad z 3:=by simp[eu,hn,hi]
    rw[e1,e2];exact A8 w0 rb l d w h hd wC wD hw hA hI hi
  ·rw[if_neg hI] at hn;have e1:kQ v=.mk 3 0 v []:=by simp[kQ,hn]
   rw[e1];cases hi:isName v with
   |true=>
    have e2:eu v z=z:=by simp[eu,hn,hi]
    rw[e2];exact sW w0 rb l d w h hd wC wD hw hA hI hi
   |false=>
    have e2:eu v z=bad z 7:=by simp[eu,hn,hi]
    rw[e2];exact uL w0 rb l d w h hd wC wD hw hA hI hi
 ·have hA':∀n,Lib.atoiAll v≠ .ok n:=fun n e=>hA ⟨n,e⟩
  have hn:=QG hA';have e1:kQ v=.mk 3 0 v []:=by simp[kQ,hn]
  rw[e1];cases hi:isName v with
  |true=>
   have e2:eu v z=z:=by simp[eu,hn,hi]
   rw[e2];exact qY w0 rb l d w h hd wC wD hw hA' hi
  |false=>
   have e2:eu v z=bad z 7:=by simp[eu,hn,hi]
   rw[e2];exact tu w0 rb l d w h hd wC wD hw hA' hi
theorem Fh (w0:World) (rb N:Nat) (hN:1502<=N):∀(k:Nat) (d:Int) (l:Bs) (z:Int) (w:World),d=11-(k:Int)->k<=11->Pw w0 rb l z w->
 Calls Tryz.prog 80 #[.pointer (some ⟨rb,0,none⟩),.int .i64 d] w (cO ev bF rb w (expr N k l z))
 |0,d,l,z,w,hd,_,h=>by
  have e:bE d z=bad z 9:=by simp[bE];omega
  have:=EZ rb l z d w h.pr (by rw[e];exact nQ _ _ (by decide));rw[e] at this;exact this
 |k+1,d,l,z,w,hd,hk,h=>by
  by_cases hz:z=0
  ·subst hz;cases hs:skip l with
   |nil=>
    have e:expr N (k+1) l 0=single (skip l) 0:=by simp[expr,hs]
    rw[e];exact Ce w0 rb l d w h (by omega) (by rw[hs];simp) (by rw[hs];simp)
   |cons c t=>
    by_cases hc:c=39
    ·subst hc;have e:expr N (k+1) l 0=quoted t 0:=by simp[expr,hs]
     rw[e];exact J5 rb l d w h.pr h.len (by omega) hs
    ·by_cases hc2:c=40
     ·subst hc2;have e:expr N (k+1) l 0=formed (aB (expr N k) N) t 0:=by simp[expr,hs]
      rw[e];exact Fe w0 rb l d w h (by omega) (by omega) hs (expr N k) N hN (Bd N k) (jm N k) (fun l w h=>Fh w0 rb N hN k (d+1) l 0 w (by omega) (by omega) h)
     ·have e:expr N (k+1) l 0=single (skip l) 0:=by simp[expr,hs,hc,hc2]
      rw[e];exact Ce w0 rb l d w h (by omega) (by rw[hs];simpa using hc) (by rw[hs];simpa using hc2)
  ·have e:bE d z=z:=by simp[bE];omega
   have e2:expr N (k+1) l z=⟨ZG,l,z⟩:=by unfold expr;rw[if_neg hz]
   rw[e2];have:=EZ rb l z d w h.pr (by rw[e];exact hz)
   rw[e] at this;exact this
end
end Go.Proofs.YtbcadjgpcfmkfaaGreatDoor
