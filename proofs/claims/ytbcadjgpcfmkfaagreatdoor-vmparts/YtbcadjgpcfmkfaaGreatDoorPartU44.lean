/- Alive7; Args6; Args7; Args8; Laid. -/
import Derived.Deep.Slices
import Derived.Deep.Strs
import Derived.ProofKit
import Derived.Lib.SmallJoins
import Derived.SizedLaws
import Derived.Test.YtbcadjgpcfmkfaaGreatDoorCards
import Derived.Test.YtbcadjgpcfmkfaaGreatDoorTie
import Derived.OpenShut
import Derived.Deep.DeepHandedRow
import Derived.ChangeMaps5
import Derived.Lib.LaidU8
import Derived.Lib.LaidTab
import Derived.LaidLaws
import Derived.Test.YtbcadjgpcfmkfaaGreatDoorPartU41
import Derived.Test.YtbcadjgpcfmkfaaGreatDoorPartU42
import Derived.Test.YtbcadjgpcfmkfaaGreatDoorPartU43
import Derived.Test.YtbcadjgpcfmkfaaGreatDoorPartU1
import Derived.Test.YtbcadjgpcfmkfaaGreatDoorPartU9
import Derived.Test.YtbcadjgpcfmkfaaGreatDoorPartU14
set_option maxHeartbeats 0
set_option maxRecDepth 100000
set_option linter.unusedSimpArgs false
namespace Go.Proofs.YtbcadjgpcfmkfaaGreatDoor
open Go Go.RowKit
section
abbrev s7:Sp:=⟨[97],[]⟩
theorem r7a:(gD fZ s7 40 a7).2=⟨2,[40,51,32,52,41],0⟩:=by kernel_rfl
theorem r7b:dx (gD fZ s7 40 a7).1 false=0:=by kernel_rfl
theorem r7c:(gD fZ s7 40 (gD fZ s7 40 a7).1).2=⟨3,[98],0⟩:=by kernel_rfl
theorem r7d:dx (gD fZ s7 40 (gD fZ s7 40 a7).1).1 true=0:=by kernel_rfl
theorem r7e:(gD fZ s7 40 (gD fZ s7 40 a7).1).1.hops=1:=by kernel_rfl
theorem r7f:(gD fZ s7 40 (gD fZ s7 40 a7).1).1.hp.length=2:=by kernel_rfl
theorem r7g:(zX (gD fZ s7 40 (gD fZ s7 40 a7).1).1).hp.length=1:=by kernel_rfl
theorem r7h:(Dc (gD fZ s7 40 (gD fZ s7 40 a7).1).1 1).fr.map (fun f=>f.stack.length)=[1]:=by kernel_rfl
theorem U5 (b:Ag) (sc sw qf qh:ai) (w:World):∃w6,w.alloc (.cells #[.int .i64 b.id,.int .i64 b.bu,.slice sc.a sc.n sc.c,.slice sw.a sw.n sw.c,.slice qf.a qf.n qf.c,.slice qh.a qh.n qh.c,.int .i64 b.fuel,.int .i64 b.cells,.int .i64 b.hops] 31)=w6/\w6.heap.size=w.heap.size+1/\Fr nothing w w6/\∀w',Fr nothing w6 w'->((w'.cell? ⟨w.heap.size,0,none⟩=some (.int .i64 b.id)/\w'.cell? ⟨w.heap.size,1,none⟩=some (.int .i64 b.bu)/\w'.cell? ⟨w.heap.size,2,none⟩=some (.slice sc.a sc.n sc.c)/\w'.cell? ⟨w.heap.size,3,none⟩=some (.slice sw.a sw.n sw.c)/\w'.cell? ⟨w.heap.size,4,none⟩=some (.slice qf.a qf.n qf.c))/\(w'.cell? ⟨w.heap.size,5,none⟩=some (.slice qh.a qh.n qh.c)/\w'.cell? ⟨w.heap.size,6,none⟩=some (.int .i64 b.fuel)/\w'.cell? ⟨w.heap.size,7,none⟩=some (.int .i64 b.cells)/\w'.cell? ⟨w.heap.size,8,none⟩=some (.int .i64 b.hops)))/\w.heap.size<w'.heap.size:=by
 refine⟨_,rfl,by simp,(Fr.refl _ _).alloc _,fun w' hf=>?_⟩
 have mx:=af (Fr.refl nothing (w.alloc (.cells #[.int .i64 b.id,.int .i64 b.bu,.slice sc.a sc.n sc.c,.slice sw.a sw.n sw.c,.slice qf.a qf.n qf.c,.slice qh.a qh.n qh.c,.int .i64 b.fuel,.int .i64 b.cells,.int .i64 b.hops] 31))) id;have hc:∀j,w'.cell? ⟨w.heap.size,j,none⟩=_:=fun j=>(hf.cell (p:=⟨w.heap.size,j,none⟩) mx.2.2 id).trans (mx.1 j)
 exact⟨⟨⟨hc 0,hc 1,hc 2,hc 3,hc 4⟩,hc 5,hc 6,hc 7,hc 8⟩,Nat.lt_of_lt_of_le mx.2.2 hf.size⟩
theorem ac5 (w:World):∃w6,w.alloc (.cells #[.string ⟨#[97]⟩,.slice none 0 0,.int .i64 0,.int .i64 0] 34)=w6/\w6.heap.size=w.heap.size+1/\Fr nothing w w6/\∀w',Fr nothing w6 w'->(w'.cell? ⟨w.heap.size,0,none⟩=some (.string ⟨#[97]⟩)/\w'.cell? ⟨w.heap.size,1,none⟩=some (.slice none 0 0)/\w'.cell? ⟨w.heap.size,2,none⟩=some (.int .i64 0)/\w'.cell? ⟨w.heap.size,3,none⟩=some (.int .i64 0))/\w.heap.size<w'.heap.size:=by
 refine⟨_,rfl,by simp,(Fr.refl _ _).alloc _,fun w' hf=>?_⟩
 have mx:=af (Fr.refl nothing (w.alloc (.cells #[.string ⟨#[97]⟩,.slice none 0 0,.int .i64 0,.int .i64 0] 34))) id;have hc:∀j,w'.cell? ⟨w.heap.size,j,none⟩=_:=fun j=>(hf.cell (p:=⟨w.heap.size,j,none⟩) mx.2.2 id).trans (mx.1 j)
 exact⟨⟨hc 0,hc 1,hc 2,hc 3⟩,Nat.lt_of_lt_of_le mx.2.2 hf.size⟩
theorem YM {B N:Nat} {qf qh sc sw:ai} {rs:List aQ} {a:Ag} {w:World} (h:Mo B qf qh rs a.fr a.hp w) (hp:∀w'',Fr (fun k=>k<N\/B<=k) w w''->iq w'' sc sw a.pg):iK w sc sw qf qh a:=
 ⟨hp w (Fr.refl _ _),⟨rs,h.fw.row.sl dA,h.fw.len,fun i r x e1 e2=>by
  have:=(h.fw.ep i r x (List.getElem?_eq_some_iff.1 e2).1 e1 e2).1;exact⟨this.fn,this.at_,this.v.sl aK,this.s.sl aK⟩⟩,h.hp.sl bY⟩
theorem Nk {w:World} {sc sw sf sh:ai} {d:Ag} (h:iK w sc sw sf sh d) (hd:d.fr.map (fun f=>f.stack.length)=[1]):∃(g o:Nat) (qa:Option Addr) (c:Nat),sf.a=some ⟨g,o,none⟩/\sf.n=1/\g<w.heap.size/\w.cell? ⟨g,o+3,none⟩=some (.slice qa 1 c):=by
 obtain⟨rs,hrs,kM⟩:=h.fr;have hl:d.fr.length=1:=by have:=congrArg List.length hd;simpa using this
 obtain⟨f,hf⟩:∃f,d.fr=[f]:=by
  match hm:d.fr,hl with
  |[f],_=>exact⟨f,rfl⟩
 rw[hf] at hd kM;have hs1:f.stack.length=1:=by simpa using hd
 obtain⟨r,hr⟩:∃r,rs[0]?=some r:=⟨_,List.getElem?_eq_getElem (by rw[kM.1];simp)⟩
 have ok:=kM.2 0 r f hr rfl;obtain⟨g,o,e1,dg,-,-,-,u3⟩:=jJ hrs hr;have hn:=(ay ok.s).1;have hsn:=(ay hrs).1;rw[kM.1] at hsn;refine⟨g,o,r.s.a,r.s.c,e1,by simpa using hsn,dg,?_⟩
 rw[hs1] at hn;rw[hn] at u3;simpa using u3
theorem Kq (w:World) (hE:Er w) (hT:rC w):Calls Tryz.prog 6 #[] w fun e w'=>e=.returned (.bool true)/\Fr nothing w w':=by
 have HT:Hid (∀w',Fr nothing w w'->Cl.rC w'):=fun w' hf=>hT.zW hf
 have HAG:=hide (Kk w hE hT);have HR1:Hid (∀(sc sw sf:ai) w',Fr nothing w w'->iK w' sc sw sf aN a7->Calls Tryz.prog 8 #[.agg (gH a7 sc sw sf aN),.agg #[.string ⟨#[97]⟩,.slice none 0 0,.int .i64 0,.int .i64 0],.int .i64 40] w' (TS w' (gD fZ s7 40 a7))):=fun sc sw sf w' hf hA=>yc a7 sc sw sf aN s7 aN 0 0 40 w' hA a7z (gN _ _ _) ⟨fun x hx=>by cases hx⟩ (by decide) (fun w'' hf'=>HT.out w'' (hf.trans hf')) (by decide) (by decide)
 have HR2:Hid (∀(sc sw sf sh:ai) w',Fr nothing w w'->iK w' sc sw sf sh (gD fZ s7 40 a7).1->Calls Tryz.prog 8 #[.agg (gH (gD fZ s7 40 a7).1 sc sw sf sh),.agg #[.string ⟨#[97]⟩,.slice none 0 0,.int .i64 0,.int .i64 0],.int .i64 40] w' (TS w' (gD fZ s7 40 (gD fZ s7 40 a7).1))):=fun sc sw sf sh w' hf hA=>yc (gD fZ s7 40 a7).1 sc sw sf sh s7 aN 0 0 40 w' hA r7b (gN _ _ _) ⟨fun x hx=>by cases hx⟩ (by decide) (fun w'' hf'=>HT.out w'' (hf.trans hf')) (by decide) (by decide)
 have HAN:=hide (fun sc sw sf sh w' hA=>RH (gD fZ s7 40 (gD fZ s7 40 a7).1).1 sc sw sf sh 1 w' hA r7d);have hsb:=(Ry r7d).low (show 400<=1000 by omega);have oO:=hide (fun sc sw sf sh w' hA=>Ni (gD fZ s7 40 (gD fZ s7 40 a7).1).1 sc sw sf sh w' hA (kY r7d) (by have:=hsb.vals;omega))
 have HNW:Hid (∀(sc sw:ai) w',iq w' sc sw a7.pg->Calls Tryz.prog 13 #[.int .i64 3,.agg #[.slice sc.a sc.n sc.c,.slice sw.a sw.n sw.c],.agg #[.int .i64 a7.fuel,.int .i64 a7.cells,.int .i64 a7.hops]] w' fun e w''=>∃aY bG sf qh:ai,e=.returned (.agg (gH a7 aY bG sf qh))/\Fr nothing w' w''/\iK w'' aY bG sf qh a7):=fun sc sw w' hP=>RG 3 p7 1 50 9 2 sc sw w' hP p7z (by decide) rfl
 have HOW:=hide (fun sc sw sf sh w' hA=>sI a7 sc sw sf sh w' hA (kY a7z));have ga:=r7a;have gb:=r7c;have gc:=r7e;have gd:=r7f;have ge:=r7g;have gf:=r7h;clear hE hT hsb;generalize gD fZ s7 40 (gD fZ s7 40 a7).1=R2 at*;generalize gD fZ s7 40 a7=R1 at*;generalize a7=a at*;obtain⟨b,ev⟩:=R1;obtain⟨c,ev2⟩:=R2;simp only at ga gb gc gd ge gf HR2 HAN oO;have GA:=hide ga;have GB:=hide gb;have GC:=hide gc;have GD:=hide gd;have GE:=hide ge;have GF:=hide gf;clear ga gb gc gd ge gf;generalize Dc c 1=d at*;generalize zX c=pk at*
 go_enter Tryz.func6,Tryz.ntmps6
 go_wp2_with (first
  |(go_at_call 13;refine(HNW.out sc sw _ (HA1.out.fr' YN.out).pg).mono ?_;rintro e w16 ⟨DD,DF,DI,DJ,rfl,Kr,abo⟩;obtain⟨Tw,e17,z17,p9,abp⟩:=U5 a DD DF DI DJ w16;have U6:=hide ((YN.out.trans Kr).trans p9);have ac6:=hide ((ac7.out.trans Kr).trans p9);have ac8:=hide ((ac9.out.trans Kr).trans p9);have abq:=hide ((abr.out.trans Kr).trans p9);have Wt:=hide ((abt.out.trans Kr).trans p9);have abu:=hide (Kr.trans p9);have ada:=hide (abo.fr' p9);have adb:=hide abp;clear Kr abo p9 abp)
  |(go_at_call 10;refine(oO.out tc9 tw9 qf9 YO _ (HA9.out.fr' Wu.out)).mono ?_;rintro e w14 ⟨ade,adf,adg,RN,rfl,Nl,abv⟩;obtain⟨w15,e15,z15,Nn,abw⟩:=U5 pk ade adf adg RN w14;have YN:=hide ((adh.out.trans Nl).trans Nn);have ac7:=hide ((adi.out.trans Nl).trans Nn);have ac9:=hide ((adj.out.trans Nl).trans Nn);have abr:=hide ((Wu.out.trans Nl).trans Nn);have abt:=hide (Nl.trans Nn);have adk:=hide abw;have Ze:=hide (ay abv.hp).1;obtain⟨⟨⟨a150,a151,a152,a153,a154⟩,a155,a156,a157,a158⟩,al15⟩:=sG.out w15 YN.out;clear Nl abv Nn abw)
  |(go_at_call 12;refine(HAN.out tc9 tw9 qf9 YO _ HA9.out).mono ?_;rintro e DN ⟨adl,adm,YP,adn,rfl,jU,abx⟩;obtain⟨w13,e13,z13,Kt,aby⟩:=U5 d adl adm YP adn DN;have adh:=hide ((AU.out.trans jU).trans Kt);have adi:=hide ((ado.out.trans jU).trans Kt);have adj:=hide ((adp.out.trans jU).trans Kt);have Wu:=hide (jU.trans Kt);have adq:=hide aby;have HAD:=hide (abx.fr' Kt);obtain⟨⟨⟨c130,c131,c132,c133,c134⟩,c135,c136,c137,c138⟩,-,cl13,-⟩:=Pm.out w13 (jU.trans Kt);clear jU abx Kt aby)
  |(go_at_call 8;refine(HR2.out tc5 tw5 qf5 qh5 _ H07.out WA.out).mono ?_;rintro e w9 ⟨tc9,tw9,qf9,YO,rfl,iI,QD⟩;obtain⟨mW,rG,h9a,h9b,z9,gT,hB9⟩:=RL c ev2 tc9 tw9 qf9 YO w9;have AU:=hide ((dH.out.trans iI).trans gT);have ado:=hide ((H07.out.trans iI).trans gT);have adp:=hide (iI.trans gT);have Pm:=hide hB9;have HCN:=hide (ay QD.hp).1;have HA9:=hide (QD.fr' gT);obtain⟨⟨⟨b90,b91,b92,b93,b94⟩,b95,b96,b97,b98⟩,-,bl9,-⟩:=hB9 rG (Fr.refl _ _);clear iI QD gT hB9)
  |(go_at_call 8;rw[X3.out];refine(HR1.out sc sw sf _ H03.out (HA1.out.fr' H23.out)).mono ?_;rintro e w5 ⟨tc5,tw5,qf5,qh5,rfl,cK,Og⟩;obtain⟨w6,w7,h5a,h5b,z5,jd,Tm⟩:=RL b ev tc5 tw5 qf5 qh5 w5;have dH:=hide ((H23.out.trans cK).trans jd);have H07:=hide ((H03.out.trans cK).trans jd);have HB5:=hide Tm;have WA:=hide (Og.fr' jd);obtain⟨⟨o50,o51,o52,o53⟩,ol5⟩:=HXS.out w7 (cK.trans jd);obtain⟨⟨⟨b50,b51,b52,b53,b54⟩,b55,b56,b57,b58⟩,-,bl5,-⟩:=Tm w7 (Fr.refl _ _);clear cK Og jd Tm)
  |(go_at_call 11;refine HAG.out.mono ?_;rintro e w1 ⟨sc,sw,sf,rfl,hf1,hA1⟩;obtain⟨w2,e2,z2,hb2,hX1⟩:=U5 a sc sw sf aN w1;obtain⟨w3,e3,z3,hb3,hXS⟩:=ac5 w2;rw[z2] at hXS;have sG:=hide hX1;have HXS:=hide hXS;have H23:=hide hb3;have H03:=hide ((hf1.trans hb2).trans hb3);have HA1:=hide (hA1.fr' hb2);obtain⟨⟨⟨x0,x1,x2,x3,x4⟩,x5,x6,x7,x8⟩,xl⟩:=hX1 w2 (Fr.refl _ _);have X3:=hide e3;clear hf1 hA1 hb2 hX1 hb3 hXS e3 z3))
 obtain⟨dg,dof,dqa,dcp,de1,de2,de3,de4⟩:=Nk HAD.out GF.out;have ga:=GA.out;have gb:=GB.out;have gc:=GC.out;have hcn:=HCN.out;rw[GD.out] at hcn;have hpn:=Ze.out;rw[GE.out] at hpn;have iL:Hid (∀w',Fr nothing Tw w'->((w'.cell? ⟨w1.heap.size,0,none⟩=some (.int .i64 a.id)/\w'.cell? ⟨w1.heap.size,1,none⟩=some (.int .i64 a.bu)/\w'.cell? ⟨w1.heap.size,2,none⟩=some (.slice sc.a sc.n sc.c)/\w'.cell? ⟨w1.heap.size,3,none⟩=some (.slice sw.a sw.n sw.c)/\w'.cell? ⟨w1.heap.size,4,none⟩=some (.slice sf.a sf.n sf.c))/\(w'.cell? ⟨w1.heap.size,5,none⟩=some (.slice none 0 0)/\w'.cell? ⟨w1.heap.size,6,none⟩=some (.int .i64 a.fuel)/\w'.cell? ⟨w1.heap.size,7,none⟩=some (.int .i64 a.cells)/\w'.cell? ⟨w1.heap.size,8,none⟩=some (.int .i64 a.hops)))/\
  ((w'.cell? ⟨w16.heap.size,0,none⟩=some (.int .i64 a.id)/\w'.cell? ⟨w16.heap.size,1,none⟩=some (.int .i64 a.bu)/\w'.cell? ⟨w16.heap.size,2,none⟩=some (.slice DD.a DD.n DD.c)/\w'.cell? ⟨w16.heap.size,3,none⟩=some (.slice DF.a DF.n DF.c)/\w'.cell? ⟨w16.heap.size,4,none⟩=some (.slice DI.a DI.n DI.c))/\(w'.cell? ⟨w16.heap.size,5,none⟩=some (.slice DJ.a DJ.n DJ.c)/\w'.cell? ⟨w16.heap.size,6,none⟩=some (.int .i64 a.fuel)/\w'.cell? ⟨w16.heap.size,7,none⟩=some (.int .i64 a.cells)/\w'.cell? ⟨w16.heap.size,8,none⟩=some (.int .i64 a.hops)))/\
  (w'.cell? ⟨w5.heap.size+1,0,none⟩=some (.int .i64 2)/\w'.cell? ⟨w5.heap.size+1,1,none⟩=some (.string ⟨#[40,51,32,52,41]⟩)/\w'.cell? ⟨w5.heap.size+1,2,none⟩=some (.int .i64 0))/\
  (w'.cell? ⟨w9.heap.size+1,0,none⟩=some (.int .i64 3)/\w'.cell? ⟨w9.heap.size+1,1,none⟩=some (.string ⟨#[98]⟩)/\w'.cell? ⟨w9.heap.size+1,2,none⟩=some (.int .i64 0))/\
  (w'.cell? ⟨w9.heap.size,5,none⟩=some (.slice YO.a 2 YO.c)/\w'.cell? ⟨w9.heap.size,8,none⟩=some (.int .i64 1))/\
  (w'.cell? ⟨DN.heap.size,4,none⟩=some (.slice (some ⟨dg,dof,none⟩) 1 YP.c)/\w'.cell? ⟨dg,dof+3,none⟩=some (.slice dqa 1 dcp))/\
  w'.cell? ⟨w14.heap.size,5,none⟩=some (.slice RN.a 1 RN.c)):=fun w' hf=>by
  obtain⟨A,-⟩:=sG.out w' (U6.out.trans hf);obtain⟨N,-⟩:=adb.out w' hf;obtain⟨-,E,-,-⟩:=HB5.out w' (ac8.out.trans hf);obtain⟨⟨-,C5,-,-,C8⟩,F,-,-⟩:=Pm.out w' (abq.out.trans hf);obtain⟨⟨⟨-,-,-,-,D4⟩,-⟩,-⟩:=adq.out w' (Wt.out.trans hf);obtain⟨⟨-,P5,-⟩,-⟩:=adk.out w' (abu.out.trans hf);rw[ga] at E;rw[gb] at F;rw[hcn] at C5;rw[gc] at C8;rw[hpn] at P5;rw[de1,de2] at D4;exact⟨A,N,E,F,⟨C5,C8⟩,⟨D4,((Wt.out.trans hf).cell (p:=⟨dg,dof+3,none⟩) de3 id).trans de4⟩,P5⟩
 clear ga gb gc hcn hpn de1 de2 de3 de4 GA GB GC GD GE GF HCN Ze;refine wp_region_held_drew (S:=fun w'=>((w'.cell? ⟨w1.heap.size,0,none⟩=some (.int .i64 a.id)/\w'.cell? ⟨w1.heap.size,1,none⟩=some (.int .i64 a.bu)/\w'.cell? ⟨w1.heap.size,2,none⟩=some (.slice sc.a sc.n sc.c)/\w'.cell? ⟨w1.heap.size,3,none⟩=some (.slice sw.a sw.n sw.c)/\w'.cell? ⟨w1.heap.size,4,none⟩=some (.slice sf.a sf.n sf.c))/\(w'.cell? ⟨w1.heap.size,5,none⟩=some (.slice none 0 0)/\w'.cell? ⟨w1.heap.size,6,none⟩=some (.int .i64 a.fuel)/\w'.cell? ⟨w1.heap.size,7,none⟩=some (.int .i64 a.cells)/\w'.cell? ⟨w1.heap.size,8,none⟩=some (.int .i64 a.hops)))/\
  ((w'.cell? ⟨w16.heap.size,0,none⟩=some (.int .i64 a.id)/\w'.cell? ⟨w16.heap.size,1,none⟩=some (.int .i64 a.bu)/\w'.cell? ⟨w16.heap.size,2,none⟩=some (.slice DD.a DD.n DD.c)/\w'.cell? ⟨w16.heap.size,3,none⟩=some (.slice DF.a DF.n DF.c)/\w'.cell? ⟨w16.heap.size,4,none⟩=some (.slice DI.a DI.n DI.c))/\(w'.cell? ⟨w16.heap.size,5,none⟩=some (.slice DJ.a DJ.n DJ.c)/\w'.cell? ⟨w16.heap.size,6,none⟩=some (.int .i64 a.fuel)/\w'.cell? ⟨w16.heap.size,7,none⟩=some (.int .i64 a.cells)/\w'.cell? ⟨w16.heap.size,8,none⟩=some (.int .i64 a.hops)))/\
  (w'.cell? ⟨w5.heap.size+1,0,none⟩=some (.int .i64 2)/\w'.cell? ⟨w5.heap.size+1,1,none⟩=some (.string ⟨#[40,51,32,52,41]⟩)/\w'.cell? ⟨w5.heap.size+1,2,none⟩=some (.int .i64 0))/\
  (w'.cell? ⟨w9.heap.size+1,0,none⟩=some (.int .i64 3)/\w'.cell? ⟨w9.heap.size+1,1,none⟩=some (.string ⟨#[98]⟩)/\w'.cell? ⟨w9.heap.size+1,2,none⟩=some (.int .i64 0))/\
  (w'.cell? ⟨w9.heap.size,5,none⟩=some (.slice YO.a 2 YO.c)/\w'.cell? ⟨w9.heap.size,8,none⟩=some (.int .i64 1))/\
  (w'.cell? ⟨DN.heap.size,4,none⟩=some (.slice (some ⟨dg,dof,none⟩) 1 YP.c)/\w'.cell? ⟨dg,dof+3,none⟩=some (.slice dqa 1 dcp))/\
  w'.cell? ⟨w14.heap.size,5,none⟩=some (.slice RN.a 1 RN.c)) (by kernel_rfl) (iL.out _ (Fr.refl nothing Tw).drew) (fun hHeld=>?_)
 have YQ:Fr nothing Tw Tw.drew:=(Fr.refl nothing Tw).drew;generalize Tw.drew=Sg at*;refine tk 0 ?_
 refine tk 1 ?_
 refine tk 2 ?_
 refine tk 3 ?_
 refine tk 4 ?_
 refine tk 5 ?_
 refine tk 6 ?_
 refine tk 7 ?_
 refine tk 8 ?_
 refine tk 9 ?_
 refine tk 10 ?_
 refine tk 11 ?_
 refine tk 12 ?_
 refine tk 13 ?_
 refine tk 14 ?_
 refine tk 15 ?_
 refine tk 16 ?_
 refine tk 17 ?_
 refine tk 18 ?_
 refine tk 19 ?_
 refine tk 20 ?_
 refine tk 21 ?_
 refine tk 22 ?_
 refine tk 23 ?_
 refine tk 24 ?_
 refine tk 25 ?_
 refine tk 26 ?_
 refine tk 27 ?_
 refine tk 28 ?_
 refine tk 29 ?_
 refine tk 30 ?_
 refine tk 31 ?_
 refine tk 32 ?_
 refine tk 33 ?_
 refine tk 34 ?_
 refine tk 35 ?_
 refine tk 36 ?_
 refine tk 37 ?_
 refine tk 38 ?_
 refine tk 39 ?_
 refine tk 40 ?_
 refine tk 41 ?_
 refine tk 42 ?_
 refine tk 43 ?_
 refine iP 44 (fun K hK=>?_)
 refine aF rfl 9 Tryz.f9 #[.tmp 75,.tmp 76] #[31,31] rfl Tryz.func9 (by kernel_rfl) (by kernel_rfl) #[.agg (gH a DD DF DI DJ),.agg (gH a sc sw sf aN)] (by simp[Act.eval]) _ (zZ a DD DF DI DJ sc sw sf aN _ (ada.out.fr' YQ) (HA1.out.fr' (U6.out.trans YQ))) ?_
 rintro e w20 ⟨rfl,adr⟩;refine⟨_,rfl,?_⟩
 have Lv:Fr nothing Tw w20:=YQ.trans adr;refine hK _ _ (iL.out _ Lv) (fun _=>?_)
 clear hK K hHeld
 try simp only[Act.put,sA,sZ,sS]
 have hHeld:=iL.out _ Lv;refine tk 45 ?_
 refine tk 46 ?_
 refine tk 47 ?_
 refine tk 49 ?_
 refine iP 48 (fun K hK=>?_)
 refine aF rfl 14 Tryz.f14 #[.tmp 80] #[31] rfl Tryz.func14 (by kernel_rfl) (by kernel_rfl) #[.agg (gH a sc sw sf aN)] (by simp[Act.eval]) _ (HOW.out sc sw sf aN _ (HA1.out.fr' (U6.out.trans Lv))) ?_
 rintro e w21 ⟨oc,ow,oqf,oqh,ors,B,rfl,ads,hB21,Af,Dn⟩;refine⟨_,rfl,?_⟩
 have hao:=YM Af Dn;have Cv:Fr nothing Tw w21:=Lv.trans ads;refine hK _ _ (iL.out _ Cv) (fun _=>?_)
 clear hK K hHeld
 try simp only[Act.put,sA,sZ,sS]
 have hHeld:=iL.out _ Cv;refine iP 50 (fun K hK=>?_)
 refine aF rfl 9 Tryz.f9 #[.tmp 81,.tmp 82] #[31,31] rfl Tryz.func9 (by kernel_rfl) (by kernel_rfl) #[.agg (gH a oc ow oqf oqh),.agg (gH a sc sw sf aN)] (by simp[Act.eval]) _ (zZ a oc ow oqf oqh sc sw sf aN _ hao (HA1.out.fr' (U6.out.trans Cv))) ?_
 rintro e w22 ⟨rfl,YR⟩;refine⟨_,rfl,?_⟩
 have adt:Hid (Fr nothing w w22):=ac6.out.trans (Cv.trans YR);refine hK _ _ (iL.out _ (Cv.trans YR)) (fun _=>?_)
 clear hK K hHeld
 try simp only[Act.put,sA,sZ,sS]
 have hHeld:=iL.out _ (Cv.trans YR);refine tk 51 ?_
 refine tk 52 ?_
 refine wpAnyH_done (by kernel_rfl) ?_ _
 go_wp2_with fail
 go_ret
 exact⟨rfl,adt.out⟩
end
section
theorem wI {α:Type} {p:Nat->α->Prop}:∀(n:Nat),(∀i,i<n->∃x,p i x)->∃l:List α,l.length=n/\∀i x,l[i]?=some x->p i x
 |0,_=>⟨[],rfl,fun i x h=>by simp at h⟩
 |n+1,h=>by
  obtain⟨l,hl,hp⟩:=wI n (fun i hi=>h i (by omega));obtain⟨x,hx⟩:=h n (by omega);refine⟨l++ [x],by simp[hl],fun i y hy=>?_⟩
  rcases Nat.lt_or_ge i n with h1|h1
  ·rw[List.getElem?_append_left (by omega)] at hy;exact hp i y hy
  ·rw[List.getElem?_append_right (by omega)] at hy;have h2:i<n+1:=by
    have:=(List.getElem?_eq_some_iff.1 hy).1;simp at this;omega
   obtain rfl:i=n:=by omega
   rw[hl] at hy;simp at hy
   rw[<-hy];exact hx
theorem cells3:Tryz.prog.cellsOf 3=1:=by kernel_rfl
theorem DK:Tryz.prog.cellsOf 9=1:=by kernel_rfl
theorem cellsIn:Tryz.prog.cellsOf 82=3:=by kernel_rfl
theorem RO:Tryz.prog.cellsOf 77=1:=by kernel_rfl
theorem Lx:Tryz.prog.cellsOf 79=3:=by kernel_rfl
theorem RQ:Tryz.prog.cellsOf 22=1:=by kernel_rfl
theorem Np:Tryz.prog.cellsOf 23=1:=by kernel_rfl
theorem LA:Tryz.prog.cellsOf 25=2:=by kernel_rfl
theorem LB:Tryz.prog.cellsOf 29=3:=by kernel_rfl
section
variable {H : Type} {enc : TypeId × Value → H} {w : World} {base : Nat} {sp : Nat → Bool} {held : Bool}
theorem cZ {n:Int} (h:(Lit.int .i64 n).wf=true):-9223372036854775808<=n/\n<=9223372036854775807:=by
 simpa[Lit.wf,IntKind.min,IntKind.max,IntKind.signed,IntKind.bits] using h
theorem open_list {α:Type} {Nq:α->List Value} {sz:Nat} {Wf:α->Prop} {t e:TypeId} (ht:Tryz.prog.underlying t=some (.slice e)) (hce:Tryz.prog.cellsOf e=sz) (hs:0<sz)
 (hopen:∀{fuel:Nat} {cs:List Value} {x:DataW H×List MemPlace},DataW.trod enc Tryz.prog w base sp held fuel e cs=some x->∃a:α,cs=Nq a/\Wf a)
 {fuel:Nat} {v:Value} {x:DataW H×List MemPlace} (h:DataW.trod enc Tryz.prog w base sp held fuel t [v]=some x):
 ∃l:List α,Sl Nq sz w v l/\(∀a∈l,Wf a)/\((x.1=.nil/\l=[])\/∃els spare,x.1=.slice els spare/\els.length=l.length):=by
 rcases Deep.open_slice ht h with⟨hcs,rfl⟩|⟨a,len,cap,m,n,D,Pl,hcs,hb,hlc,hcm,hm,rfl,hel⟩
 ·obtain rfl:v=.slice none 0 0:=by simpa using hcs
  exact⟨[],⟨none,0,rfl,by unfold maxLen;simp,fun i x hx=>by simp at hx⟩,by simp,.inl ⟨rfl,rfl⟩⟩
 ·obtain rfl:v=.slice (some a) len cap:=by simpa using hcs
  have hlm:len<=m:=by rw[hm];split<;>omega
  rw[hce] at hel;obtain⟨l,hl,hp⟩:=wI (p:=fun i (y:α)=>Wf y/\w.cells? base (a.add (i*sz)) sz=some (Nq y)) len (fun i hi=>by
   obtain⟨cs',hc',hd'⟩:=hel i (by omega);obtain⟨y,rfl,hw⟩:=hopen hd';exact⟨y,hw,hc'⟩)
  refine⟨l,⟨some a,cap,by rw[hl],by omega,fun i y hy=>?_⟩,fun y hy=>?_,.inr ⟨_,_,rfl,by simp[hl]⟩⟩
  ·obtain⟨_,hc⟩:=hp i y hy;obtain⟨_,hlen,hcell⟩:=World.cells?_some hc;have hbl:=World.cells?_block hc hs;have hil:i<len:=by rw[<-hl];exact(List.getElem?_eq_some_iff.1 hy).1
   have hsp:a.spot=none:=by
    obtain⟨cs0,hc0,_⟩:=hel 0 (by omega);obtain⟨_,hl0,hcell0⟩:=World.cells?_some hc0;have h0:=hcell0 0 hs;rw[Nat.zero_mul] at h0;have e0:(a.add 0).add 0=a:=by simp[Addr.add]
    rw[e0,List.getElem?_eq_getElem (by omega)] at h0;cases ha:a.spot with
    |none=>rfl
    |some s=>
     exfalso
     unfold World.cell? at h0;split at h0
     ·simp[ha] at h0
     ·cases h0
   obtain⟨ab,ao,asp⟩:=a;simp only at hsp;subst hsp;have hadd:∀k,(⟨ab,ao,none⟩:Addr).add k=⟨ab,ao+k,none⟩:=fun k=>by unfold Addr.add;split<;>simp_all
   refine⟨ab,ao,rfl,?_,fun j u hu=>?_⟩
   ·rw[hadd] at hbl;exact hbl
   ·have hj:j<sz:=by rw[<-hlen];exact(List.getElem?_eq_some_iff.1 hu).1
    have:=hcell j hj;rw[Deep.add_add,hadd,hu,<-Nat.add_assoc] at this;exact this
  ·obtain⟨i,hi,rfl⟩:=List.getElem_of_mem hy;exact(hp i _ (List.getElem?_eq_getElem hi)).1
theorem U7 {fuel:Nat} {cs:List Value} {x:DataW H×List MemPlace} (h:DataW.trod enc Tryz.prog w base sp held fuel 82 cs=some x):∃i:In,cs=encI i/\WfI i:=by
 obtain⟨y0,y1,y2,n,_,hl,h0,h1,h2⟩:=Deep.trod_struct3 Tryz.underlying82 h;rw[cellsIn] at hl
 match cs,hl with
 |[c0,c1,c2],_=>
  simp only[cells3,List.drop_zero,List.drop_succ_cons,List.take_succ_cons,List.take_zero] at h0 h1 h2;obtain⟨k,e0,_,w0⟩:=DataW.trod_int Tryz.underlying3 h0;obtain⟨m,e1,_,w1⟩:=DataW.trod_int Tryz.underlying3 h1;obtain⟨o,e2,_,w2⟩:=DataW.trod_int Tryz.underlying3 h2;simp at e0 e1 e2
  subst e0 e1 e2;exact⟨⟨k,m,o⟩,rfl,cZ w0,cZ w1,cZ w2⟩
theorem pW {fuel:Nat} {cs:List Value} {x:DataW H×List MemPlace} (h:DataW.trod enc Tryz.prog w base sp held fuel 9 cs=some x):∃t:Bs,cs=jP t/\t.length<=9223372036854775807:=by
 obtain⟨s,e2,_,w2⟩:=DataW.trod_string Tryz.underlying9 h;subst e2;refine⟨s.data.toList,rfl,?_⟩
 have e:s.data.toList.length=s.size:=Array.length_toList;rw[e];unfold maxLen at w2;omega
def WfR (w:World) (r:jQ):Prop:=∃c:Cz,GQ w r c/\i64 c.np/\i64 c.nv/\∀i∈c.ins,WfI i
theorem Nr {fuel:Nat} {cs:List Value} {x:DataW H×List MemPlace} (h:DataW.trod enc Tryz.prog w base sp held fuel 79 cs=some x):∃r:jQ,cs=bZ r/\WfR w r:=by
 obtain⟨y0,y1,y2,n,_,hl,h0,h1,h2⟩:=Deep.trod_struct3 Tryz.underlying79 h;rw[Lx] at hl
 match cs,hl with
 |[c0,c1,c2],_=>
  simp only[cells3,RO,List.drop_zero,List.drop_succ_cons,List.take_succ_cons,List.take_zero] at h0 h1 h2;obtain⟨k,e0,_,w0⟩:=DataW.trod_int Tryz.underlying3 h0;obtain⟨m,e1,_,w1⟩:=DataW.trod_int Tryz.underlying3 h1;obtain⟨l,hs,hw,_⟩:=open_list Tryz.underlying77 cellsIn (by decide) (fun h=>U7 h) h2;simp at e0 e1
  subst e0 e1;obtain⟨ao,cap,rfl,hm,hc⟩:=id hs;exact⟨⟨k,m,⟨ao,l.length,cap⟩⟩,rfl,⟨k,m,l⟩,⟨rfl,rfl,hs⟩,cZ w0,cZ w1,hw⟩
theorem Ns {fuel:Nat} {cs:List Value} {x:DataW H×List MemPlace} (h:DataW.trod enc Tryz.prog w base sp held fuel 25 cs=some x):∃(sc sw:ai) (p:Pz),cs=[.slice sc.a sc.n sc.c,.slice sw.a sw.n sw.c]/\iq w sc sw p/\WfZ p:=by
 obtain⟨y0,y1,n,_,hl,h0,h1⟩:=ChangeShapes.trod_struct2 Tryz.underlying25 h;rw[LA] at hl
 match cs,hl with
 |[c0,c1],_=>
  simp only[RQ,Np,List.drop_zero,List.drop_succ_cons,List.take_succ_cons,List.take_zero] at h0 h1;obtain⟨rs,hs,hw,_⟩:=open_list Tryz.underlying22 Lx (by decide) (fun h=>Nr h) h0;obtain⟨ws,hs1,hw1,_⟩:=open_list Tryz.underlying23 DK (by decide) (fun h=>pW h) h1;obtain⟨cl,hcl,hcp⟩:=wI (p:=fun i (c:Cz)=>∀r,rs[i]?=some r->GQ w r c/\i64 c.np/\i64 c.nv/\∀i∈c.ins,WfI i) rs.length (fun i hi=>by
   obtain⟨c,hc⟩:=hw rs[i] (List.getElem_mem hi);exact⟨c,fun r hr=>by rw[List.getElem?_eq_getElem hi] at hr;cases hr;exact hc⟩)
  obtain⟨ao,cap,rfl,hm,hc⟩:=id hs;obtain⟨ao1,adu,rfl,hm1,hc1⟩:=id hs1;refine⟨⟨ao,rs.length,cap⟩,⟨ao1,ws.length,adu⟩,⟨cl,ws⟩,rfl,⟨⟨rs,hs,hcl.symm,fun i r x e1 e2=>(hcp i x e2 r e1).1⟩,hs1⟩,⟨fun c hc=>?_,hw1⟩⟩
  obtain⟨i,hi,rfl⟩:=List.getElem_of_mem hc;exact(hcp i _ (List.getElem?_eq_getElem hi) _ (List.getElem?_eq_getElem (by rw[<-hcl];exact hi))).2
end
end
section
theorem Aa:Tryz.prog.cellsOf 53=3:=by kernel_rfl
theorem U8:Tryz.prog.cellsOf 49=1:=by kernel_rfl
theorem LC:Tryz.prog.cellsOf 88=6:=by kernel_rfl
theorem RS:Tryz.prog.cellsOf 27=1:=by kernel_rfl
theorem LD:Tryz.prog.cellsOf 51=4:=by kernel_rfl
theorem RU:Tryz.prog.cellsOf 26=1:=by kernel_rfl
theorem U9:Tryz.prog.cellsOf 31=9:=by kernel_rfl
section
variable {H : Type} {enc : TypeId × Value → H} {w : World} {base : Nat} {sp : Nat → Bool} {held : Bool}
theorem pq {fuel:Nat} {cs:List Value} {x:DataW H×List MemPlace} (h:DataW.trod enc Tryz.prog w base sp held fuel 53 cs=some x):∃v:Val,cs=aP v/\wX v:=by
 obtain⟨y0,y1,y2,n,_,hl,h0,h1,h2⟩:=Deep.trod_struct3 Tryz.underlying53 h;rw[Aa] at hl
 match cs,hl with
 |[c0,c1,c2],_=>
  simp only[cells3,DK,List.drop_zero,List.drop_succ_cons,List.take_succ_cons,List.take_zero] at h0 h1 h2;obtain⟨k,e0,_,w0⟩:=DataW.trod_int Tryz.underlying3 h0;obtain⟨m,e1,_,w1⟩:=DataW.trod_int Tryz.underlying3 h1;obtain⟨t,e2,w2⟩:=pW h2;simp[jP] at e0 e1 e2
  subst e0 e1 e2;exact⟨⟨k,m,t⟩,rfl,cZ w0,cZ w1,w2⟩
theorem Nt {fuel:Nat} {cs:List Value} {x:DataW H×List MemPlace} (h:DataW.trod enc Tryz.prog w base sp held fuel 88 cs=some x):∃c:aV,cs=jv c/\(wX c.l/\wX c.r):=by
 obtain⟨y0,y1,n,_,hl,h0,h1⟩:=ChangeShapes.trod_struct2 Tryz.underlying88 h;rw[LC] at hl
 match cs,hl with
 |[c0,c1,c2,c3,c4,c5],_=>
  simp only[Aa,List.drop_zero,List.drop_succ_cons,List.take_succ_cons,List.take_zero] at h0 h1;obtain⟨a,e0,w0⟩:=pq h0;obtain⟨b,e1,w1⟩:=pq h1;refine⟨⟨a,b⟩,?_,w0,w1⟩
  unfold jv;rw[<-e0,<-e1];rfl
def adv (w:World) (r:aQ):Prop:=∃f:Fm,CY w r f/\WfM f
theorem Ab {s:Nat} {v:Value} {α:Type} {Nq:α->List Value} {l:List α} (h:Sl Nq s w v l):∃q:ai,v=.slice q.a q.n q.c/\Sl Nq s w q.v l:=by
 obtain⟨ao,cap,rfl,hm,hc⟩:=id h;exact⟨⟨ao,l.length,cap⟩,rfl,h⟩
theorem Ku {fuel:Nat} {cs:List Value} {x:DataW H×List MemPlace} (h:DataW.trod enc Tryz.prog w base sp held fuel 51 cs=some x):∃r:aQ,cs=lU r/\adv w r:=by
 obtain⟨xs,n,_,_,hl,hxs,hf⟩:=DataW.trod_struct Tryz.underlying51 h;rw[LD] at hl
 match cs,hl,xs,hxs with
 |[c0,c1,c2,c3],_,[y0,y1,y2,y3],_=>
  have h0:DataW.trod enc Tryz.prog w base sp held n 3 (([c0,c1,c2,c3].drop 0).take (Tryz.prog.cellsOf 3))=some y0:=hf 0 _ rfl;have h1:DataW.trod enc Tryz.prog w base sp held n 3 (([c0,c1,c2,c3].drop 1).take (Tryz.prog.cellsOf 3))=some y1:=hf 1 _ rfl;have h2:DataW.trod enc Tryz.prog w base sp held n 49 (([c0,c1,c2,c3].drop 2).take (Tryz.prog.cellsOf 49))=some y2:=hf 2 _ rfl;have h3:DataW.trod enc Tryz.prog w base sp held n 49 (([c0,c1,c2,c3].drop 3).take (Tryz.prog.cellsOf 49))=some y3:=hf 3 _ rfl;simp only[cells3,U8,List.drop_zero,List.drop_succ_cons,List.take_succ_cons,List.take_zero] at h0 h1 h2 h3;obtain⟨k,e0,_,w0⟩:=DataW.trod_int Tryz.underlying3 h0;obtain⟨m,e1,_,w1⟩:=DataW.trod_int Tryz.underlying3 h1;obtain⟨vs,s2,f2,_⟩:=open_list Tryz.underlying49 Aa (by decide) (fun h=>pq h) h2;obtain⟨ss,s3,f3,_⟩:=open_list Tryz.underlying49 Aa (by decide) (fun h=>pq h) h3;simp at e0 e1
  subst e0 e1;obtain⟨q2,rfl,s2⟩:=Ab s2;obtain⟨q3,rfl,s3⟩:=Ab s3;exact⟨⟨k,m,q2,q3⟩,rfl,⟨k,m,vs,ss⟩,⟨rfl,rfl,s2,s3⟩,⟨cZ w0,cZ w1,f2,f3⟩⟩
theorem Gf {fuel:Nat} {cs:List Value} {x:DataW H×List MemPlace} (h:DataW.trod enc Tryz.prog w base sp held fuel 29 cs=some x):∃a b c:Int,cs=[.int .i64 a,.int .i64 b,.int .i64 c]/\i64 a/\i64 b/\i64 c:=by
 obtain⟨y0,y1,y2,n,_,hl,h0,h1,h2⟩:=Deep.trod_struct3 Tryz.underlying29 h;rw[LB] at hl
 match cs,hl with
 |[c0,c1,c2],_=>
  simp only[cells3,List.drop_zero,List.drop_succ_cons,List.take_succ_cons,List.take_zero] at h0 h1 h2;obtain⟨k,e0,_,w0⟩:=DataW.trod_int Tryz.underlying3 h0;obtain⟨m,e1,_,w1⟩:=DataW.trod_int Tryz.underlying3 h1;obtain⟨o,e2,_,w2⟩:=DataW.trod_int Tryz.underlying3 h2;simp at e0 e1 e2
  subst e0 e1 e2;exact⟨k,m,o,rfl,cZ w0,cZ w1,cZ w2⟩
def Rdd (d:DataW H) (n:Nat):Prop:=(d=.nil/\n=0)\/∃els spare,d=.slice els spare/\els.length=n
theorem Kv {fuel:Nat} {cs:List Value} {x:DataW H×List MemPlace} (h:DataW.trod enc Tryz.prog w base sp held fuel 31 cs=some x):∃(a:Ag) (sc sw sf sh:ai),cs=(gH a sc sw sf sh).toList/\iK w sc sw sf sh a/\(a.hp.length<=140737488355328/\a.fr.length<=140737488355328->YV a)/\∃d0 d1 d2 d3 d4 d5,x.1=.agg [d0,d1,d2,d3,d4,d5]/\Rdd d3 a.fr.length/\Rdd d4 a.hp.length:=by
 obtain⟨xs,n,_,rfl,hl,hxs,hf⟩:=DataW.trod_struct Tryz.underlying31 h;rw[U9] at hl
 match cs,hl,xs,hxs with
 |[c0,c1,c2,c3,c4,c5,c6,c7,c8],_,[y0,y1,y2,y3,y4,y5],_=>
  have h0:DataW.trod enc Tryz.prog w base sp held n 3 (([c0,c1,c2,c3,c4,c5,c6,c7,c8].drop 0).take (Tryz.prog.cellsOf 3))=some y0:=hf 0 _ rfl;have h1:DataW.trod enc Tryz.prog w base sp held n 3 (([c0,c1,c2,c3,c4,c5,c6,c7,c8].drop 1).take (Tryz.prog.cellsOf 3))=some y1:=hf 1 _ rfl;have h2:DataW.trod enc Tryz.prog w base sp held n 25 (([c0,c1,c2,c3,c4,c5,c6,c7,c8].drop 2).take (Tryz.prog.cellsOf 25))=some y2:=hf 2 _ rfl;have h3:DataW.trod enc Tryz.prog w base sp held n 26 (([c0,c1,c2,c3,c4,c5,c6,c7,c8].drop 4).take (Tryz.prog.cellsOf 26))=some y3:=hf 3 _ rfl;have h4:DataW.trod enc Tryz.prog w base sp held n 27 (([c0,c1,c2,c3,c4,c5,c6,c7,c8].drop 5).take (Tryz.prog.cellsOf 27))=some y4:=hf 4 _ rfl;have h5:DataW.trod enc Tryz.prog w base sp held n 29 (([c0,c1,c2,c3,c4,c5,c6,c7,c8].drop 6).take (Tryz.prog.cellsOf 29))=some y5:=hf 5 _ rfl;simp only[cells3,LA,RU,RS,LB,List.drop_zero,List.drop_succ_cons,List.take_succ_cons,List.take_zero] at h0 h1 h2 h3 h4 h5;obtain⟨k,e0,_,w0⟩:=DataW.trod_int Tryz.underlying3 h0;obtain⟨m,e1,_,w1⟩:=DataW.trod_int Tryz.underlying3 h1;obtain⟨sc,sw,p,e2,p2,z2⟩:=Ns h2;obtain⟨rs,s3,f3,r3⟩:=open_list Tryz.underlying26 LD (by decide) (fun h=>Ku h) h3;obtain⟨hp,s4,f4,r4⟩:=open_list Tryz.underlying27 LC (by decide) (fun h=>Nt h) h4;obtain⟨fu,ce,ho,e5,i0,i1,i2⟩:=Gf h5;simp at e0 e1 e2 e5
  obtain⟨rfl,rfl⟩:=e2;obtain⟨rfl,rfl,rfl⟩:=e5;subst e0 e1;obtain⟨fl,hfl,hfp⟩:=wI (p:=fun i (f:Fm)=>∀r,rs[i]?=some r->CY w r f/\WfM f) rs.length (fun i hi=>by
   obtain⟨f,hf⟩:=f3 rs[i] (List.getElem_mem hi);exact⟨f,fun r hr=>by rw[List.getElem?_eq_getElem hi] at hr;cases hr;exact hf⟩)
  obtain⟨q3,rfl,s3⟩:=Ab s3;obtain⟨q4,rfl,s4⟩:=Ab s4;refine⟨⟨k,m,p,fl,hp,fu,ce,ho⟩,sc,sw,q3,q4,rfl,⟨p2,⟨rs,s3,hfl.symm,fun i r x e1 e2=>(hfp i x e2 r e1).1⟩,s4⟩,fun hlen=>⟨z2,fun f hf=>?_,f4,⟨cZ w0,cZ w1,i0,i1,i2⟩,hlen⟩,y0.1,y1.1,y2.1,y3.1,y4.1,y5.1,rfl,?_,?_⟩
  ·obtain⟨i,hi,rfl⟩:=List.getElem_of_mem hf;exact(hfp i _ (List.getElem?_eq_getElem hi) _ (List.getElem?_eq_getElem (by rw[<-hfl];exact hi))).2
  ·rcases r3 with⟨a,b⟩|⟨els,spare,a,b⟩
   ·exact .inl ⟨a,by rw[hfl,b];rfl⟩
   ·exact .inr ⟨els,spare,a,by rw[b,hfl]⟩
  ·rcases r4 with⟨a,b⟩|⟨els,spare,a,b⟩
   ·exact .inl ⟨a,by rw[b];rfl⟩
   ·exact .inr ⟨els,spare,a,b⟩
end
end
section
theorem Cw:Tryz.prog.cellsOf 55=4:=by kernel_rfl
theorem Kw:Tryz.prog.cellsOf 32=1:=by kernel_rfl
theorem Nu:Tryz.prog.cellsOf 34=4:=by kernel_rfl
section
variable {H : Type} {enc : TypeId × Value → H} {w : World} {base : Nat} {sp : Nat → Bool} {held : Bool}
theorem Nv {fuel:Nat} {cs:List Value} {x:DataW H×List MemPlace} (h:DataW.trod enc Tryz.prog w base sp held fuel 55 cs=some x):∃y:Bs×Val,cs=kF y/\wX y.2:=by
 obtain⟨y0,y1,n,_,hl,h0,h1⟩:=ChangeShapes.trod_struct2 Tryz.underlying55 h;rw[Cw] at hl
 match cs,hl with
 |[c0,c1,c2,c3],_=>
  simp only[DK,Aa,List.drop_zero,List.drop_succ_cons,List.take_succ_cons,List.take_zero] at h0 h1;obtain⟨t,e0,_⟩:=pW h0;obtain⟨v,e1,w1⟩:=pq h1;refine⟨(t,v),?_,w1⟩
  simp[jP] at e0
  unfold kF;subst e0;have pQ: [c1,c2,c3]=aP v:=e1;rw[show[Value.string (bs t),c1,c2,c3]=Value.string (bs t):: [c1,c2,c3] from rfl,pQ];rfl
theorem Nw {fuel:Nat} {cs:List Value} {x:DataW H×List MemPlace} (h:DataW.trod enc Tryz.prog w base sp held fuel 34 cs=some x):∃(s:Sp) (cu:ai) (kD kE:Int),cs=[.string (bs s.name),.slice cu.a cu.n cu.c,.int .i64 kD,.int .i64 kE]/\Sl kF 4 w cu.v s.facts/\(∀y∈s.facts,wX y.2)/\s.name.length<=9223372036854775807:=by
 obtain⟨xs,n,_,_,hl,hxs,hf⟩:=DataW.trod_struct Tryz.underlying34 h;rw[Nu] at hl
 match cs,hl,xs,hxs with
 |[c0,c1,c2,c3],_,[y0,y1,y2,y3],_=>
  have h0:DataW.trod enc Tryz.prog w base sp held n 9 (([c0,c1,c2,c3].drop 0).take (Tryz.prog.cellsOf 9))=some y0:=hf 0 _ rfl;have h1:DataW.trod enc Tryz.prog w base sp held n 32 (([c0,c1,c2,c3].drop 1).take (Tryz.prog.cellsOf 32))=some y1:=hf 1 _ rfl;have h2:DataW.trod enc Tryz.prog w base sp held n 3 (([c0,c1,c2,c3].drop 2).take (Tryz.prog.cellsOf 3))=some y2:=hf 2 _ rfl;have h3:DataW.trod enc Tryz.prog w base sp held n 3 (([c0,c1,c2,c3].drop 3).take (Tryz.prog.cellsOf 3))=some y3:=hf 3 _ rfl;simp only[cells3,DK,Kw,List.drop_zero,List.drop_succ_cons,List.take_succ_cons,List.take_zero] at h0 h1 h2 h3;obtain⟨t,e0,w0⟩:=pW h0;obtain⟨fs,s1,f1,_⟩:=open_list Tryz.underlying32 Cw (by decide) (fun h=>Nv h) h1;obtain⟨k,e2,_,w2⟩:=DataW.trod_int Tryz.underlying3 h2;obtain⟨m,e3,_,w3⟩:=DataW.trod_int Tryz.underlying3 h3;simp[jP] at e0 e2 e3
  subst e0 e2 e3;obtain⟨q1,rfl,s1⟩:=Ab s1;exact⟨⟨t,fs⟩,q1,k,m,rfl,s1,f1,w0⟩
end
end
section
def putCells (l:List Value):Obj->Obj
 |.cells _ t frozen=> .cells l.toArray t frozen
 |o=>o
open Go.ChangeShapes Go.WideShapes Go.ChangeAt Go.RowKit Go.ChangeMaps
def YS:List Value:=[1,10,100,1000,10000,100000,1000000,10000000,100000000,1000000000,10000000000,100000000000,1000000000000,10000000000000,100000000000000,1000000000000000,10000000000000000,100000000000000000,1000000000000000000,10000000000000000000].map fun n=> .int .u64 n
def RV:List Value:=[0,1,28,2,29,14,24,3,30,22,20,15,25,17,4,8,31,27,13,23,21,19,16,7,26,12,18,6,11,5,10,9].map fun n=> .int .u8 n
def RX:List Value:=[0,1,56,2,57,49,28,3,61,58,42,50,38,29,17,4,62,47,59,36,45,43,51,22,53,39,33,30,24,18,12,5,63,55,48,27,60,41,37,16,46,35,44,21,52,32,23,11,54,26,40,15,34,20,31,10,25,14,19,9,13,8,7,6].map fun n=> .int .u8 n
def adw:List UInt8:=[105,110,118,97,108,105,100,32,115,121,110,116,97,120]
def adx:List UInt8:=[118,97,108,117,101,32,111,117,116,32,111,102,32,114,97,110,103,101]
noncomputable def pX (os:Os):World:=World.holding Tryz.prog os ⟨#[],#[],[]⟩
noncomputable def uT (os:Os):World:=
 {pX os with heap:=((((((pX os).heap.modify 1 (putCells [.iface 187 (.pointer (some ⟨(pX os).heap.size,0,none⟩))])).modify 2 (putCells [.iface 187 (.pointer (some ⟨(pX os).heap.size+1,0,none⟩))])).modify 0 (putCells YS)).modify 3 (putCells RV)).modify 4 (putCells RX)).push (.cells #[.string ⟨adw.toArray⟩] 189 (0,0))|>.push (.cells #[.string ⟨adx.toArray⟩] 189 (0,0))}
theorem own:ownKnob Tryz.prog.godebug=none:=by kernel_rfl
theorem laidOut:laidOutB Tryz.prog=true:=by kernel_rfl
theorem g0:Tryz.prog.globalNamed "strconv.ErrSyntax"=some 1:=by kernel_rfl
theorem g1:Tryz.prog.globalNamed "strconv.ErrRange"=some 2:=by kernel_rfl
theorem gt0:(Tryz.prog.globals[1]?).map (·.type)=some 154:=by kernel_rfl
theorem gt1:(Tryz.prog.globals[2]?).map (·.type)=some 154:=by kernel_rfl
theorem RY {W:World} {n:String} {g:Nat} {nm:String} {d:DataW Unit} (hg:Tryz.prog.globalNamed n=some g) (ht:(Tryz.prog.globals[g]?).map (·.type)=some 154) (h:Lib.VarReads Tryz.prog W n (.iface nm d)):∃ev,W.cell? ⟨g,0,none⟩=some ev/\(ev=.nilIface\/∃te pe,ev=.iface te pe):=by
 obtain⟨g',t',cs,fuel,p,h1,h2,h3,h4⟩:=h;obtain rfl:=Option.some.inj (hg.symm.trans h1);obtain rfl:=Option.some.inj (ht.symm.trans h2);obtain⟨_,u,v,hcs,_⟩:=iface_of_trod Tryz.underlying154 h4;refine⟨.iface u v,?_,.inr ⟨u,v,rfl⟩⟩
 unfold World.var? at h3;rw[hg] at h3;simp only[Option.bind_some] at h3;unfold World.cell?;split at h3
 ·rename_i cs' t fr he
  cases h3
  rw[he];obtain⟨l⟩:=cs;simp only at hcs;subst hcs;simp
 ·cases h3
theorem errs {W:World} (h:laidMetH Tryz.prog Rows.vmSpendsRow.laid W):Er W:=by
 have h1:laidMet Tryz.prog Rows.vmSpendsRow.laid W:=h;exact⟨RY g0 gt0 (Lib.laidMet.reads h1 (n:= "strconv.ErrSyntax") (d:=Rows.laid_strconv_ErrSyntax) (by simp[Rows.vmSpendsRow])),RY g1 gt1 (Lib.laidMet.reads h1 (n:= "strconv.ErrRange") (d:=Rows.laid_strconv_ErrRange) (by simp[Rows.vmSpendsRow]))⟩
theorem ady:Tryz.prog.globalNamed "internal/strconv.uint64pow10"=some 0:=by kernel_rfl
theorem RZ:(Tryz.prog.globals[0]?).map (·.type)=some 173:=by kernel_rfl
theorem R3:Tryz.prog.cellsOf 173=20:=by kernel_rfl
theorem R4:Tryz.prog.cellsOf 160=1:=by kernel_rfl
theorem table {W:World} (h:laidMetH Tryz.prog Rows.vmSpendsRow.laid W):rC W:=by
 have h1:laidMet Tryz.prog Rows.vmSpendsRow.laid W:=h;have h2:=h1.filter (fun x=>x.1== "internal/strconv.uint64pow10");exact Lib.tabIs_of_head (rest:=[]) ady RZ Tryz.underlying173 Tryz.underlying160 R4 R3 h2
end
end Go.Proofs.YtbcadjgpcfmkfaaGreatDoor
