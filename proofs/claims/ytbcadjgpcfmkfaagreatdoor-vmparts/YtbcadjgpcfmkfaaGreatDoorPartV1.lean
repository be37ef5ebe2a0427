/- What the law of VmParts needs besides. -/
import Derived.Test.YtbcadjgpcfmkfaaGreatDoorPartU1
import Derived.Test.YtbcadjgpcfmkfaaGreatDoorPartU16
import Derived.Test.YtbcadjgpcfmkfaaGreatDoorPartU26
import Derived.Test.YtbcadjgpcfmkfaaGreatDoorPartU43
set_option maxHeartbeats 0
set_option maxRecDepth 100000
set_option linter.unusedSimpArgs false
namespace Go.Proofs.YtbcadjgpcfmkfaaGreatDoor
open Go Go.RowKit
theorem stepC_rest {sh:List aV->Val->Bs} {a:Ag} {s:Sp}:(jS sh a s).2.k≠1:=by
 by_cases h:a.fuel=0
 ·rw[uE h];show(5:Int)≠1;decide
 ·exact(vw h).rest
theorem runC_parts (sh:List aV->Val->Bs) (s:Sp):∀(n m:Nat) (a:Ag),gD sh s (n+m) a=if(gD sh s n a).2.k=1 then gD sh s m (gD sh s n a).1 else gD sh s n a
 |0,m,a=>by
  rw[Nat.zero_add];show _=if(1:Int)=1 then gD sh s m a else _
  rw[if_pos rfl]
 |n+1,m,a=>by
  rw[show n+1+m=(n+m)+1 by omega,gD,gD];split
  ·exact runC_parts sh s n m _
  ·rw[if_neg stepC_rest]
theorem runC_right {sh:List aV->Val->Bs} {s:Sp} (hs:TB s):∀(n:Nat) (a:Ag),dx a false=0->(gD sh s n a).2.k=1->dx (gD sh s n a).1 false=0
 |0,_,h,_=>h
 |n+1,a,h,he=>by
  rw[gD] at he⊢;have hr:=Ho (sh:=sh) h hs;split at he
  ·rename_i h0
   rw[if_pos h0];exact runC_right hs n _ (hr.go (.inl h0)) he
  ·exact absurd he stepC_rest
theorem vparts_law (a:Ag) (sc sw sf sh:ai) (sp:Sp) (cu:ai) (kD kE n m:Int) (w:World) (hA:iK w sc sw sf sh a) (hW:YV a) (hfs:Sl kF 4 w cu.v sp.facts) (hwf:∀x∈sp.facts,wX x.2) (hnl:sp.name.length<=9223372036854775807) (hn0:-9223372036854775808<=n) (hn1:n<=9223372036854775807) (hm0:-9223372036854775808<=m) (hm1:m<=9223372036854775807)
 (hal:∀w1,Fr nothing w w1->Calls Tryz.prog 6 #[] w1 fun e w'=>e=.returned (.bool true)/\Fr nothing w1 w') (ht:∀w',Fr nothing w w'->Cl.rC w'):
 Calls Tryz.prog 3 #[.agg (gH a sc sw sf sh),.agg #[.string (bs sp.name),.slice cu.a cu.n cu.c,.int .i64 kD,.int .i64 kE],.int .i64 n,.int .i64 m] w fun e w'=>e=.returned (.bool true)/\Fr nothing w w':=by
 have F1:Fr nothing w (w.alloc (.cells (gH a sc sw sf sh) 31)):=(Fr.refl _ _).alloc _;obtain⟨w1,hw1⟩:∃y,y=w.alloc (.cells (gH a sc sw sf sh) 31):=⟨_,rfl⟩
 have F2:Fr nothing w1 (w1.alloc (.cells #[.string (bs sp.name),.slice cu.a cu.n cu.c,.int .i64 kD,.int .i64 kE] 34)):=(Fr.refl _ _).alloc _;obtain⟨w2,hw2⟩:∃y,y=w1.alloc (.cells #[.string (bs sp.name),.slice cu.a cu.n cu.c,.int .i64 kD,.int .i64 kE] 34):=⟨_,rfl⟩
 rw[<-hw1] at F1;rw[<-hw2] at F2;have z1:w1.heap.size=w.heap.size+1:=by rw[hw1];simp
 have ma:=af (w:=w) (cs:=gH a sc sw sf sh) (t:=31) (w1:=w2) (S:=nothing) (by rw[<-hw1];exact F2) id;have ms:=af (w:=w1) (cs:=#[.string (bs sp.name),.slice cu.a cu.n cu.c,.int .i64 kD,.int .i64 kE]) (t:=34) (w1:=w2) (S:=nothing) (by rw[<-hw2];exact Fr.refl _ _) id
 rw[z1] at ms;have bq:Hid (Fr nothing w w2):=F1.trans F2;have jY:Hid (∀w',Fr nothing w2 w'->((w'.cell? ⟨w.heap.size,0,none⟩=some (.int .i64 a.id)/\w'.cell? ⟨w.heap.size,1,none⟩=some (.int .i64 a.bu)/\w'.cell? ⟨w.heap.size,2,none⟩=some (.slice sc.a sc.n sc.c)/\w'.cell? ⟨w.heap.size,3,none⟩=some (.slice sw.a sw.n sw.c)/\w'.cell? ⟨w.heap.size,4,none⟩=some (.slice sf.a sf.n sf.c))/\(w'.cell? ⟨w.heap.size,5,none⟩=some (.slice sh.a sh.n sh.c)/\w'.cell? ⟨w.heap.size,6,none⟩=some (.int .i64 a.fuel)/\w'.cell? ⟨w.heap.size,7,none⟩=some (.int .i64 a.cells)/\w'.cell? ⟨w.heap.size,8,none⟩=some (.int .i64 a.hops)))/\(w'.cell? ⟨w.heap.size+1,0,none⟩=some (.string (bs sp.name))/\w'.cell? ⟨w.heap.size+1,1,none⟩=some (.slice cu.a cu.n cu.c)/\w'.cell? ⟨w.heap.size+1,2,none⟩=some (.int .i64 kD)/\w'.cell? ⟨w.heap.size+1,3,none⟩=some (.int .i64 kE))/\w.heap.size<w'.heap.size/\w.heap.size+1<w'.heap.size):=fun w' hf=>by
  have hc:∀j,w'.cell? ⟨w.heap.size,j,none⟩=_:=fun j=>(hf.cell (p:=⟨w.heap.size,j,none⟩) ma.2.2 id).trans (ma.1 j)
  have hd:∀j,w'.cell? ⟨w.heap.size+1,j,none⟩=_:=fun j=>(hf.cell (p:=⟨w.heap.size+1,j,none⟩) ms.2.2 id).trans (ms.1 j)
  exact⟨⟨⟨hc 0,hc 1,hc 2,hc 3,hc 4⟩,hc 5,hc 6,hc 7,hc 8⟩,⟨hd 0,hd 1,hd 2,hd 3⟩,Nat.lt_of_lt_of_le ma.2.2 hf.size,Nat.lt_of_lt_of_le ms.2.2 hf.size⟩
 have HA2:=hide (hA.fr' bq.out);have BC:Hid (∀w',Fr nothing w2 w'->Sl kF 4 w' cu.v sp.facts):=fun w' hf=>hfs.fr (bq.out.trans hf) (fun _ _=>id)
 have HAL:=hide (hal w2 bq.out);have HRI:Hid (∀w',Fr nothing w2 w'->Calls Tryz.prog 7 #[.agg (gH a sc sw sf sh),.agg #[.string (bs sp.name),.slice cu.a cu.n cu.c,.int .i64 kD,.int .i64 kE]] w' fun e w''=>e=.returned (.bool (nX a sp))/\Fr nothing w' w''):=fun w' hf=>JN a sc sw sf sh sp cu kD kE w' (HA2.out.fr' hf) hW (BC.out w' hf) hwf hnl
 have HTA:Hid (∀w',Fr nothing w2 w'->Cl.rC w'):=fun w' hf=>ht w' (bq.out.trans hf)
 have pQ:=hw1.symm;have e2':=hw2.symm;have HRR:=hide (@MM a sp);generalize nX a sp=RB at*;obtain⟨⟨⟨q0,q1,q2,q3,q4⟩,q5,q6,q7,q8⟩,⟨p0,p1,p2,p3⟩,pl,ql⟩:=jY.out w2 (Fr.refl _ _);clear hA hW hfs hwf hnl hal ht F1 F2 ma ms hw1 hw2
 by_cases hgo:RB=true/\0<=n/\n<=500/\0<=m/\m<=500
 case neg=>
  clear HRR
  by_cases c0:RB=false
  ·subst c0
   go_enter Tryz.func3,Tryz.ntmps3
   go_wp2_with (first
    |(go_at_call 7;refine(HRI.out _ dX.out).mono ?_;rintro e w4 ⟨rfl,gm⟩;have gX:=hide (dX.out.trans gm);clear gm)
    |(go_at_call 6;refine HAL.out.mono ?_;rintro e w3 ⟨rfl,hf3⟩;have dX:=hide hf3;obtain⟨⟨⟨x0,x1,x2,x3,x4⟩,x5,x6,x7,x8⟩,⟨y0,y1,y2,y3⟩,xl,yl⟩:=jY.out w3 hf3;clear hf3))
   go_ret
   exact⟨rfl,bq.out.trans gX.out⟩
  ·obtain rfl:RB=true:=by simpa using c0
   by_cases c1:n<0
   ·go_enter Tryz.func3,Tryz.ntmps3
    go_wp2_with (first
     |(go_at_call 7;refine(HRI.out _ dX.out).mono ?_;rintro e w4 ⟨rfl,gm⟩;have gX:=hide (dX.out.trans gm);clear gm)
     |(go_at_call 6;refine HAL.out.mono ?_;rintro e w3 ⟨rfl,hf3⟩;have dX:=hide hf3;obtain⟨⟨⟨x0,x1,x2,x3,x4⟩,x5,x6,x7,x8⟩,⟨y0,y1,y2,y3⟩,xl,yl⟩:=jY.out w3 hf3;clear hf3))
    go_ret
    exact⟨rfl,bq.out.trans gX.out⟩
   by_cases c2:500<n
   ·go_enter Tryz.func3,Tryz.ntmps3
    go_wp2_with (first
     |(go_at_call 7;refine(HRI.out _ dX.out).mono ?_;rintro e w4 ⟨rfl,gm⟩;have gX:=hide (dX.out.trans gm);clear gm)
     |(go_at_call 6;refine HAL.out.mono ?_;rintro e w3 ⟨rfl,hf3⟩;have dX:=hide hf3;obtain⟨⟨⟨x0,x1,x2,x3,x4⟩,x5,x6,x7,x8⟩,⟨y0,y1,y2,y3⟩,xl,yl⟩:=jY.out w3 hf3;clear hf3))
    go_ret
    exact⟨rfl,bq.out.trans gX.out⟩
   by_cases c3:m<0
   ·go_enter Tryz.func3,Tryz.ntmps3
    go_wp2_with (first
     |(go_at_call 7;refine(HRI.out _ dX.out).mono ?_;rintro e w4 ⟨rfl,gm⟩;have gX:=hide (dX.out.trans gm);clear gm)
     |(go_at_call 6;refine HAL.out.mono ?_;rintro e w3 ⟨rfl,hf3⟩;have dX:=hide hf3;obtain⟨⟨⟨x0,x1,x2,x3,x4⟩,x5,x6,x7,x8⟩,⟨y0,y1,y2,y3⟩,xl,yl⟩:=jY.out w3 hf3;clear hf3))
    go_ret
    exact⟨rfl,bq.out.trans gX.out⟩
   by_cases c4:500<m
   ·go_enter Tryz.func3,Tryz.ntmps3
    go_wp2_with (first
     |(go_at_call 7;refine(HRI.out _ dX.out).mono ?_;rintro e w4 ⟨rfl,gm⟩;have gX:=hide (dX.out.trans gm);clear gm)
     |(go_at_call 6;refine HAL.out.mono ?_;rintro e w3 ⟨rfl,hf3⟩;have dX:=hide hf3;obtain⟨⟨⟨x0,x1,x2,x3,x4⟩,x5,x6,x7,x8⟩,⟨y0,y1,y2,y3⟩,xl,yl⟩:=jY.out w3 hf3;clear hf3))
    go_ret
    exact⟨rfl,bq.out.trans gX.out⟩
   exact absurd ⟨rfl,by omega,by omega,by omega,by omega⟩ hgo
 obtain⟨rfl,hb0,hb1,hb2,hb3⟩:=hgo;obtain⟨hsp,hnm,hR⟩:=HRR.out rfl;have hpt:=runC_parts fZ sp n.toNat m.toNat a;have hrt:=runC_right (sh:=fZ) hsp n.toNat a hR;have hnm':n.toNat+m.toNat=(n+m).toNat:=by omega
 rw[hnm'] at hpt;have hwr:IntKind.i64.wrap (n+m)=n+m:=aO _ (by omega) (by omega);have UW:Hid (∀(k:Int) w',Fr nothing w2 w'->-9223372036854775808<=k->k<=9223372036854775807->Calls Tryz.prog 8 #[.agg (gH a sc sw sf sh),.agg #[.string (bs sp.name),.slice cu.a cu.n cu.c,.int .i64 kD,.int .i64 kE],.int .i64 k] w' (TS w' (gD fZ sp k.toNat a))):=fun k w' hf h1 h2=>yc a sc sw sf sh sp cu kD kE k w' (HA2.out.fr' hf) hR (BC.out w' hf) hsp (by omega) (fun w'' hf'=>HTA.out w'' (hf.trans hf')) h1 h2
 have HRU:=hide (fun w' hf=>UW.out n w' hf hn0 hn1);have hru2:=fun w' hf=>UW.out (n+m) w' hf (by omega) (by omega);have TT:Hid (∀(b:Ag) (tc tw qf qh:ai) w',Fr nothing w2 w'->dx b false=0->iK w' tc tw qf qh b->Calls Tryz.prog 8 #[.agg (gH b tc tw qf qh),.agg #[.string (bs sp.name),.slice cu.a cu.n cu.c,.int .i64 kD,.int .i64 kE],.int .i64 m] w' (TS w' (gD fZ sp m.toNat b))):=fun b tc tw qf qh w' hf h1 h2=>yc b tc tw qf qh sp cu kD kE m w' h2 h1 (BC.out w' hf) hsp (by omega) (fun w'' hf'=>HTA.out w'' (hf.trans hf')) hm0 hm1
 generalize gD fZ sp n.toNat a=R at*;obtain⟨b,ev⟩:=R;simp only at hpt hrt;clear UW HRR hR hnm hsp hnm'
 by_cases hk:ev.k=1
 case neg=>
  rw[if_neg hk] at hpt;rw[hpt] at hru2;have HRU2:=hide hru2;have hkb:(ev.k !=1)=true:=by simpa using hk
  clear hpt hrt hru2 TT
  go_enter Tryz.func3,Tryz.ntmps3
  go_wp2_with (first
   |(go_at_call 9;refine(zZ b tc5 tw5 qf5 qh5 tc8 tw8 qf8 qh8 _ HS1.out HA8.out).mono ?_;rintro e w20 ⟨rfl,adr⟩;have HF20:=hide (Fg.out.trans adr);clear adr)
   |(go_at_call 8;refine(HRU2.out _ dH.out).mono ?_;rintro e w8 ⟨tc8,tw8,qf8,qh8,rfl,oN,hA8⟩;obtain⟨w9,mW,h8a,h8b,z8,AJ,Zj⟩:=RL b ev tc8 tw8 qf8 qh8 w8;have Fg:=hide ((dH.out.trans oN).trans AJ);have HB8:=hide Zj;have HA8:=hide (hA8.fr' AJ);obtain⟨⟨⟨k50,k51,k52,k53,k54⟩,k55,k56,k57,k58⟩,⟨l50,l51,l52⟩,kl5,ll5⟩:=HB5.out mW (oN.trans AJ);have HS1:=hide (WA.out.fr' (oN.trans AJ));obtain⟨⟨⟨m80,m81,m82,m83,m84⟩,m85,m86,m87,m88⟩,⟨o80,o81,o82,o83⟩,ml8,ol8⟩:=jY.out mW Fg.out;obtain⟨⟨⟨b80,b81,b82,b83,b84⟩,b85,b86,b87,b88⟩,⟨d80,d81,d82⟩,bl8,dl8⟩:=Zj mW (Fr.refl _ _);clear oN hA8 AJ Zj)
   |(go_at_call 8;refine(HRU.out _ gX.out).mono ?_;rintro e w5 ⟨tc5,tw5,qf5,qh5,rfl,cK,Og⟩;obtain⟨w6,w7,h5a,h5b,z5,jd,Tm⟩:=RL b ev tc5 tw5 qf5 qh5 w5;have dH:=hide ((gX.out.trans cK).trans jd);have HB5:=hide Tm;have WA:=hide (Og.fr' jd);obtain⟨⟨⟨m50,m51,m52,m53,m54⟩,m55,m56,m57,m58⟩,⟨o50,o51,o52,o53⟩,ml5,ol5⟩:=jY.out w7 dH.out;obtain⟨⟨⟨b50,b51,b52,b53,b54⟩,b55,b56,b57,b58⟩,⟨d50,d51,d52⟩,bl5,dl5⟩:=Tm w7 (Fr.refl _ _);clear cK Og jd Tm)
   |(go_at_call 7;refine(HRI.out _ dX.out).mono ?_;rintro e w4 ⟨rfl,gm⟩;have gX:=hide (dX.out.trans gm);obtain⟨⟨⟨s0,s1,s2,s3,s4⟩,s5,s6,s7,s8⟩,⟨VA,v1',v2',v3'⟩,sl',vl⟩:=jY.out w4 gX.out;clear gm)
   |(go_at_call 6;refine HAL.out.mono ?_;rintro e w3 ⟨rfl,hf3⟩;have dX:=hide hf3;obtain⟨⟨⟨x0,x1,x2,x3,x4⟩,x5,x6,x7,x8⟩,⟨y0,y1,y2,y3⟩,xl,yl⟩:=jY.out w3 hf3;clear hf3))
  go_ret
  exact⟨rfl,bq.out.trans HF20.out⟩
 case pos=>
  rw[if_pos hk] at hpt;have hrt:=hrt hk;obtain⟨c,ev2,hce⟩:∃c ev2,gD fZ sp m.toNat b=(c,ev2):=⟨_,_,rfl⟩
  have oK:=hide (fun tc tw qf qh w' hf h2=>TT.out b tc tw qf qh w' hf hrt h2);rw[hce] at hpt oK;rw[hpt] at hru2;have HRU3:=hide hru2;have hkb:(ev.k !=1)=false:=by simpa using hk
  clear hpt hrt hru2 TT hce hk
  go_enter Tryz.func3,Tryz.ntmps3
  go_wp2_with (first
   |(go_at_call 9;refine(zZ c tc8 tw8 qf8 qh8 tc11 tw11 qf11 qh11 _ HS1.out HA11.out).mono ?_;rintro e w20 ⟨rfl,adr⟩;have HF20:=hide (adh.out.trans adr);clear adr)
   |(go_at_call 8;refine(HRU3.out _ Fg.out).mono ?_;rintro e rG ⟨tc11,tw11,qf11,qh11,rfl,hf11,hA11⟩;obtain⟨DN,w13,h11a,h11b,z11,Nb,hB11⟩:=RL c ev2 tc11 tw11 qf11 qh11 rG;have adh:=hide ((Fg.out.trans hf11).trans Nb);have HB11:=hide hB11;have HA11:=hide (hA11.fr' Nb);obtain⟨⟨⟨k80,k81,k82,k83,k84⟩,k85,k86,k87,k88⟩,⟨l80,l81,l82⟩,kl8,ll8⟩:=HB8.out w13 (hf11.trans Nb);have HS1:=hide (HA8.out.fr' (hf11.trans Nb));obtain⟨⟨⟨m110,m111,m112,m113,m114⟩,m115,m116,m117,m118⟩,⟨o110,o111,o112,o113⟩,ml11,ol11⟩:=jY.out w13 adh.out;obtain⟨⟨⟨b110,b111,b112,b113,b114⟩,b115,b116,b117,b118⟩,⟨d110,d111,d112⟩,bl11,dl11⟩:=hB11 w13 (Fr.refl _ _);clear hf11 hA11 Nb hB11)
   |(go_at_call 8;refine(oK.out tc5 tw5 qf5 qh5 _ dH.out WA.out).mono ?_;rintro e w8 ⟨tc8,tw8,qf8,qh8,rfl,oN,hA8⟩;obtain⟨w9,mW,h8a,h8b,z8,AJ,Zj⟩:=RL c ev2 tc8 tw8 qf8 qh8 w8;have Fg:=hide ((dH.out.trans oN).trans AJ);have HB8:=hide Zj;have HA8:=hide (hA8.fr' AJ);obtain⟨⟨⟨m80,m81,m82,m83,m84⟩,m85,m86,m87,m88⟩,⟨o80,o81,o82,o83⟩,ml8,ol8⟩:=jY.out mW Fg.out;obtain⟨⟨⟨b80,b81,b82,b83,b84⟩,b85,b86,b87,b88⟩,⟨d80,d81,d82⟩,bl8,dl8⟩:=Zj mW (Fr.refl _ _);clear oN hA8 AJ Zj)
   |(go_at_call 8;refine(HRU.out _ gX.out).mono ?_;rintro e w5 ⟨tc5,tw5,qf5,qh5,rfl,cK,Og⟩;obtain⟨w6,w7,h5a,h5b,z5,jd,Tm⟩:=RL b ev tc5 tw5 qf5 qh5 w5;have dH:=hide ((gX.out.trans cK).trans jd);have HB5:=hide Tm;have WA:=hide (Og.fr' jd);obtain⟨⟨⟨m50,m51,m52,m53,m54⟩,m55,m56,m57,m58⟩,⟨o50,o51,o52,o53⟩,ml5,ol5⟩:=jY.out w7 dH.out;obtain⟨⟨⟨b50,b51,b52,b53,b54⟩,b55,b56,b57,b58⟩,⟨d50,d51,d52⟩,bl5,dl5⟩:=Tm w7 (Fr.refl _ _);clear cK Og jd Tm)
   |(go_at_call 7;refine(HRI.out _ dX.out).mono ?_;rintro e w4 ⟨rfl,gm⟩;have gX:=hide (dX.out.trans gm);obtain⟨⟨⟨s0,s1,s2,s3,s4⟩,s5,s6,s7,s8⟩,⟨VA,v1',v2',v3'⟩,sl',vl⟩:=jY.out w4 gX.out;clear gm)
   |(go_at_call 6;refine HAL.out.mono ?_;rintro e w3 ⟨rfl,hf3⟩;have dX:=hide hf3;obtain⟨⟨⟨x0,x1,x2,x3,x4⟩,x5,x6,x7,x8⟩,⟨y0,y1,y2,y3⟩,xl,yl⟩:=jY.out w3 hf3;clear hf3))
  go_ret
  exact⟨rfl,bq.out.trans HF20.out⟩
end Go.Proofs.YtbcadjgpcfmkfaaGreatDoor
