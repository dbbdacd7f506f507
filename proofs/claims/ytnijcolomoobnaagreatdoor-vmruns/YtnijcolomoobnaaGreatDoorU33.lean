/- Texts of ours, joined. -/
import Derived.Test.YtnijcolomoobnaaGreatDoorU29
import Derived.Test.YtnijcolomoobnaaGreatDoorU30
set_option linter.unusedVariables false
set_option linter.unusedSimpArgs false
set_option maxRecDepth 100000
set_option maxHeartbeats 16000000
namespace Go.Proofs.YtnijcolomoobnaaGreatDoor
section
open Go.RowKit
attribute [local go_sem ↓] Go.wp_at_zero Go.wp_at_succ
theorem Fs{p:Nat}{w:World}{cs fs ds ss:Value}{fl:Int}(h:Lm p w cs fs ds ss fl){n:Int}(hn:fl<n):Calls Tryz.prog 51 #[pt p 0,iv n] w fun r w'=>r=.panicked (Ca 54)∧w'=w.setCell ⟨p,4,none⟩ (iv 0):=by
 obtain⟨c0,c1,c2,c3,c4,f0,f1,f2,f3,f4,hl⟩:=Ak h;clear h;go_enter Tryz.func51,Tryz.ntmps51;go_wp2;exact⟨rfl,rfl,rfl⟩
theorem Gr{p:Nat}{w:World}{cs fs ds ss:Value}{fl:Int}(h:Lm p w cs fs ds ss fl){n:Int}(hn:¬fl<n)(h0:0<=n)(hf:fl<=4096):Calls Tryz.prog 51 #[pt p 0,iv n] w fun r w'=>r=.returned (.tuple #[])∧w'=w.setCell ⟨p,4,none⟩ (iv (fl - n)):=by
 obtain⟨c0,c1,c2,c3,c4,f0,f1,f2,f3,f4,hl⟩:=Ak h;have hw:IntKind.i64.wrap (fl - n)=fl - n:=by rw[IntKind.wrap_i64];omega
 have hnb:decide (fl<n)=false:=by simpa using hn
 clear h;go_enter Tryz.func51,Tryz.ntmps51;go_wp2
 go_end0
 exact⟨rfl,rfl⟩
theorem Tk(w:World)(x:Int):Calls Tryz.prog 88 #[iv x,iv 0] w fun r w'=>r=.returned (iv x)∧Below w.heap.size w w':=by
 go_enter Tryz.func88,Tryz.ntmps88;go_wp2;go_ret;exact⟨rfl,Below.refl _ _⟩
theorem Tl(w:World)(x:Int){e:Int}(he:e≠0):Calls Tryz.prog 88 #[iv x,iv e] w fun r w'=>r=.panicked (Ca e)∧Below w.heap.size w w':=by
 have hb:(e != 0)=true:=by simpa using he
 go_enter Tryz.func88,Tryz.ntmps88;go_wp2;exact⟨rfl,rfl,Below.refl _ _⟩
theorem Tm(w:World)(x:Bool):Calls Tryz.prog 92 #[.bool x,iv 0] w fun r w'=>r=.returned (.bool x)∧Below w.heap.size w w':=by
 go_enter Tryz.func92,Tryz.ntmps92;go_wp2;go_ret;exact⟨rfl,Below.refl _ _⟩
theorem Tn(w:World)(x:Bool){e:Int}(he:e≠0):Calls Tryz.prog 92 #[.bool x,iv e] w fun r w'=>r=.panicked (Ca e)∧Below w.heap.size w w':=by
 have hb:(e != 0)=true:=by simpa using he
 go_enter Tryz.func92,Tryz.ntmps92;go_wp2;exact⟨rfl,rfl,Below.refl _ _⟩
theorem F8(w:World)(x:V)(ao:Option Addr)(n c:Nat):Calls Tryz.prog 82 #[.agg #[iv x.k,iv x.n,bz x.t,.slice ao n c],iv 0] w fun r w'=>r=.returned (.agg #[iv x.k,iv x.n,bz x.t,.slice ao n c])∧Below w.heap.size w w':=by
 obtain⟨w0,hW,hb0,hsz,d0,d1,d2,d3⟩:=Aw w x (.slice ao n c);obtain⟨wz,hWz,hbz,hlz,hxz⟩:=Co w0;obtain⟨wN,hWN,hxN,hbN⟩:=Cq hxz (Nat.le_refl _) hbz (iv x.k) (iv x.n) (bz x.t) (.slice ao n c);obtain⟨z0,z1,z2,z3,y0,y1,y2,y3⟩:=Aa hxz;obtain⟨f,-⟩:=Ag hbz;have hg:w.heap.size<w0.heap.size:=by omega
 have k0:=(f _ 0 hg).trans d0;have k1:=(f _ 1 hg).trans d1;have k2:=(f _ 2 hg).trans d2;have k3:=(f _ 3 hg).trans d3;have hgz:w.heap.size<wz.heap.size:=by omega
 obtain⟨m0,m1,m2,m3,-⟩:=Aa hxN;have hlN:w0.heap.size<wN.heap.size:=(Array.getElem?_eq_some_iff.1 hxN).1;have hB:Below w.heap.size w wN:=hb0.trans (hbN.mono hb0.size);clear f d0 d1 d2 d3 hxz hxN hsz;go_enter Tryz.func82,Tryz.ntmps82;go_wp2_with fail;exact bodyPost_ret (v:=.agg #[iv x.k,iv x.n,bz x.t,.slice ao n c]) (by simp[results,Tryz.results82,go_sem,hlN,m0,m1,m2,m3]) rfl ⟨rfl,hB⟩
theorem F9(w:World)(x:V)(ao:Option Addr)(n c:Nat){e:Int}(he:e≠0):Calls Tryz.prog 82 #[.agg #[iv x.k,iv x.n,bz x.t,.slice ao n c],iv e] w fun r w'=>r=.panicked (Ca e)∧Below w.heap.size w w':=by
 have hb:(e != 0)=true:=by simpa using he
 obtain⟨w0,hW,hb0,hsz,d0,d1,d2,d3⟩:=Aw w x (.slice ao n c);obtain⟨wz,hWz,hbz,hlz,hxz⟩:=Co w0;have hB:Below w.heap.size w wz:=hb0.trans (hbz.mono hb0.size);clear d0 d1 d2 d3 hxz hsz;go_enter Tryz.func82,Tryz.ntmps82;go_wp2;exact⟨rfl,rfl,hB⟩
section
variable {e:En} {P:Nat->Prop} {ks:Value} {loc stk sts:List V} {fl q:Int} {dn:Bool} {x:V} {xs:Value} {w w':World}
theorem Eb{b p:Nat}{ls:Value}{ak:Option Addr}{n ck:Nat}(h:Lf b p w ls (.slice ak n ck) q dn x xs)(hn:n<=ck)(hc:ck<=9223372036854775807){j d:Nat}(hj:n=j+d):Calls Tryz.prog 80 #[pt b 0,iv (d:Int)] w fun r w'=>r=.returned (.slice (cutA ak j ck) d (ck - j))∧w'=w.setCell ⟨b,2,none⟩ (.slice ak j ck):=by
 obtain⟨c0,c1,c2,c3,c4⟩:=h.cells;have f2:=h.open_ 2;have hl:=h.lt;have hs:(n:Int) - (d:Int)=(j:Int):=by omega
 have hw:IntKind.i64.wrap ((n:Int) - (d:Int))=(j:Int):=by rw[hs,IntKind.wrap_i64];omega
 have hw2:IntKind.i64.wrap (j:Int)=(j:Int):=by rw[IntKind.wrap_i64];omega
 have r1:=fun wx=>Hv ak n ck j (by omega) wx
 have r2:=fun wx=>F5 ak n ck j (by omega) wx
 have hd:n - j=d:=by omega
 rw[hd] at r1;generalize cutA ak j ck=aj at *;generalize ck - j=cj at *;clear h hn hj hd;go_enter Tryz.func80,Tryz.ntmps80;go_wp2;go_ret;exact⟨rfl,rfl⟩
theorem Ec{g j c:Nat}(h:j<c):cutA (some ⟨g,0,none⟩) j c=some ⟨g,j*4,none⟩:=by
 unfold cutA;rw[if_neg (by omega)];simp[Addr.add];omega
theorem Dc{s:List V}{y:V}(h:LS e P ks loc (s ++ [y]) sts fl q dn x xs w):Calls Tryz.prog 43 #[pt e.b 0] w fun r w'=>(∃ay cy,r=.returned (.agg #[iv y.k,iv y.n,bz y.t,.slice ay y.l.length cy])∧IsW P w' y (.slice ay y.l.length cy))∧(∃ks',LS e P ks' loc s sts fl q dn x xs w')∧Fr (fun k=>k≠e.b) w w':=by
 obtain⟨ak,ck,hks,hck,hcm⟩:=h.sk.slice;subst hks;obtain⟨w0,hW0,hb0,hl0,hx0⟩:=Co w;have hlen:(s ++ [y]).length=s.length+1:=by simp
 have hC:=Eb (d:=1) (j:=s.length) (h.keep hb0).fr hck hcm hlen;obtain⟨g,ay,cy,e1,hg,-,c0,c1,c2,c3,-,-,-,-,hwy⟩:=h.sk.get (i:=s.length) (x:=y) (by simp);subst e1;rw[Ec (by omega)] at hC;have hgb:g≠e.b:=(h.lk g rfl).2.1;have hwb:w.heap.size≠e.b:=by have:=h.fr.lt;omega
 have hf1:Fr (fun k=>k≠e.b) w0 (w0.setCell ⟨e.b,2,none⟩ (sL g 0 s.length ck)):=Fr.set (by simp) _ _;have hxz:=(hf1.block _ hwb hl0).trans hx0;have hF1:Fr (fun k=>k≠e.b) w (w0.setCell ⟨e.b,2,none⟩ (sL g 0 s.length ck)):=(Fr.of_below hb0).trans hf1;have hcell:∀j,(w0.setCell ⟨e.b,2,none⟩ (sL g 0 s.length ck)).cell? ⟨g,j,none⟩=w.cell? ⟨g,j,none⟩:=fun j=>World.cell?_of_block (hF1.block g hgb hg)
 have k0:=(hcell _).trans c0;have k1:=(hcell _).trans c1;have k2:=(hcell _).trans c2;have k3:=(hcell _).trans c3;have hL1:=(h.keep hb0).fr.setK (sL g 0 s.length ck);have hs1:(w0.setCell ⟨e.b,2,none⟩ (sL g 0 s.length ck)).heap.size=w0.heap.size:=by simp[World.setCell]
 generalize w0.setCell ⟨e.b,2,none⟩ (sL g 0 s.length ck)=w1 at *;have hg1:g<w1.heap.size:=by have:=hb0.size;omega
 have hz1:w.heap.size<w1.heap.size:=by omega
 have hne:g≠w.heap.size:=by omega
 obtain⟨z0,z1,z2,z3,y0,y1,y2,y3⟩:=Aa hxz;obtain⟨wN,hWN,hxN,hfN,hsN⟩:=Qh hxz (iv y.k) (iv y.n) (bz y.t) (.slice ay y.l.length cy);obtain⟨m0,m1,m2,m3,-⟩:=Aa hxN;have hlN:w.heap.size<wN.heap.size:=(Array.getElem?_eq_some_iff.1 hxN).1;have hFN:Fr (fun k=>k≠e.b) w wN:=⟨hfN.os.trans hF1.os,hfN.tape.trans hF1.tape,hfN.output.trans hF1.output,by omega,fun k hk hl=>(hfN.block k (by show k≠_;omega) (by omega)).trans (hF1.block k hk hl)⟩;have hfin:Hid ((∃ay' cy',Ending.returned (.agg #[iv y.k,iv y.n,bz y.t,.slice ay y.l.length cy])=.returned (.agg #[iv y.k,iv y.n,bz y.t,.slice ay' y.l.length cy'])∧IsW P wN y (.slice ay' y.l.length cy'))∧(∃ks',LS e P ks' loc s sts fl q dn x xs wN)∧Fr (fun k=>k≠e.b) w wN):=by
  refine⟨⟨ay,cy,rfl,(hwy.base (B':=P) (fun k hk _=>by rcases hk.1 with h | h;exact h;exact absurd h hk.2)).since ⟨hFN.size,fun k hk hl=>hFN.block k (fun e1=>h.nb (e1 ▸ hk)) hl⟩⟩,⟨sL g 0 s.length ck,?_⟩,hFN⟩;have:=h.cut (j:=s.length) (by omega) hFN (hL1.keep (hfN.block _ hwb.symm hL1.lt))
  rwa [List.take_left' rfl] at this
 clear h hwy hcell hf1 hck hcm hlen c0 c1 c2 c3 hx0 hb0 hs1 hl0 hg hxz hxN hsN hL1 hF1 hFN hfN;go_enter Tryz.func43,Tryz.ntmps43;go_wp2_with fail;refine hC.mono ?_;rintro r w2 ⟨rfl,hw2⟩;subst hw2;clear hC;go_wp2_with fail;exact bodyPost_ret (v:=.agg #[iv y.k,iv y.n,bz y.t,.slice ay y.l.length cy]) (by simp[results,Tryz.results43,go_sem,hlN,m0,m1,m2,m3]) rfl hfin.out
theorem J4{s:List V}{y:V}(h:LS e P ks loc (s ++ [y]) sts fl q dn x xs w)(hk:y.k≠2):Calls Tryz.prog 81 #[pt e.b 0] w fun r w'=>r=.panicked (Ca 40)∧Fr (fun k=>k≠e.b) w w':=by
 have hC:=Dc h;have hkb:(y.k != 2)=true:=by simpa using hk
 clear h hk;go_enter Tryz.func81,Tryz.ntmps81;go_wp2_with fail;refine hC.mono ?_;rintro r w1 ⟨⟨ay,cy,rfl,-⟩,-,hf1⟩;clear hC;obtain⟨w2,hW2,hb2,hsz,d0,d1,d2,d3⟩:=Aw w1 y (.slice ay y.l.length cy);have hgb:w1.heap.size<w2.heap.size:=by omega
 clear hsz;go_wp2;exact⟨rfl,rfl,hf1.trans (Fr.of_below hb2)⟩
theorem Iw{s:List V}{y:V}(h:LS e P ks loc (s ++ [y]) sts fl q dn x xs w)(hk:y.k=2):Calls Tryz.prog 81 #[pt e.b 0] w fun r w'=>r=.returned (.bool (y.n == 1))∧(∃ks',LS e P ks' loc s sts fl q dn x xs w')∧Fr (fun k=>k≠e.b) w w':=by
 have hC:=Dc h;have hkb:(y.k != 2)=false:=by simpa using hk
 clear h hk;go_enter Tryz.func81,Tryz.ntmps81;go_wp2_with fail;refine hC.mono ?_;rintro r w1 ⟨⟨ay,cy,rfl,-⟩,⟨ks',h1⟩,hf1⟩;clear hC;obtain⟨w2,hW2,hb2,hsz,d0,d1,d2,d3⟩:=Aw w1 y (.slice ay y.l.length cy);have hgb:w1.heap.size<w2.heap.size:=by omega
 have hfin:Hid ((∃ks',LS e P ks' loc s sts fl q dn x xs w2)∧Fr (fun k=>k≠e.b) w w2):=⟨⟨ks',h1.keep hb2⟩,hf1.trans (Fr.of_below hb2)⟩;clear hsz h1 hf1 hb2;go_wp2;go_ret;exact⟨rfl,hfin.out⟩
end
theorem Ft{P:Program}{ops:Array Oper}{Q:Exit->Act->World->Prop}{md:Region.Mode}{S:World->Prop}{N:Nat->Bool}{i:Nat}{oi:Oper}{v:Value}{f:Nat}{listed:Array Bool}{a:Act}{w:World}(d:Option Tmp)(hi:ops[i]?=some oi)(hd:oi.dst=d)(hs:Region.noSelect ops=true)(hf:Region.free md ops listed i=true)(hr:(Region.ready md ops listed).contains i=true)(hN:N i=false)
  (hQ:∀c a w,Q (.panic c) (a.put oi.dst v) w->Q (.panic c) a w) (hw:Region.wanted oi (yielded ops a.tmps)=true) (hy:∀w,(execOp a.eval oi).run P w=.ok (.value v) w) (h:wpE P md ops Q S N f (listed.setIfInBounds i true) (a.put d v) w):wpE P md ops Q S N (f+1) listed a w:=Pz hi hs hf hr hN hQ hw hy (by rw[hd];exact h)
theorem Qj{P:Nat->Prop}{w:World}{ks:Value}{acc:List V}(h:Rw P w ks acc)(hnk:∀k,ks.ownBlock=some k->¬P k)(hn:acc.length+1<=900000)(hP:∀k,w.heap.size<=k->P k) :
  ∃wa g cap w',w.alloc (.cells #[iv 0,iv 0,.string ⟨#[]⟩,sZ] 31)=wa∧(Builtin.append_ #[22,22] 22 #[ks,sL w.heap.size 0 1 1]).run Tryz.prog wa=.ok (sL g 0 (acc.length+1) cap) w'∧Rw (fun k=>P k∧k≠g) w' (sL g 0 (acc.length+1) cap) (acc ++ [V.zero])∧Fr (fun k=>ks.ownBlock≠some k) w w'∧(ks.ownBlock=some g∨w.heap.size<=g):=by
 obtain⟨wa,hWa⟩:∃wa,w.alloc (.cells #[iv 0,iv 0,.string ⟨#[]⟩,sZ] 31)=wa:=⟨_,rfl⟩;have hba:Below w.heap.size w wa:=by rw[<-hWa];exact (Below.refl _ _).alloc (Nat.le_refl _) _
 have hsa:wa.heap.size=w.heap.size+1:=by rw[<-hWa];simp
 have hblk:wa.heap[w.heap.size]?=some (.cells #[iv 0,iv 0,.string ⟨#[]⟩,sZ] 31):=by rw[<-hWa];exact Ai _ _
 obtain⟨row,hown,hPo,hall⟩:=h.below hba;have hone:An (fun k=>P k∧k<wa.heap.size) wa [V.zero] [iv 0,iv 0,.string ⟨#[]⟩,sZ]:=An.one (At.2 ⟨sZ,rfl,Cv⟩);obtain⟨ao,cap,w',hr,ho,hb,hg,hat⟩:=Eo Tryz.underlying22 Dh rfl (by decide) 22 (m:=1) (c:=1) (ad:=some ⟨w.heap.size,0,none⟩) hown (fun h=>by cases h) (by simp) (fun b hb j u hu=>by
  obtain rfl:=Option.some.inj hb;exact World.news_of_block hblk j u hu) hone.ones (by omega) (by decide) (Nat.zero_le _)
 have hown':∀k,(Value.slice ao (acc.length+1) cap).ownBlock=some k->ks.ownBlock=some k∨wa.heap.size=k:=fun k hk=>by
  rcases hat with e | e
  ·exact Or.inl (e ▸ hk)
  ·rw[e] at hk;exact Or.inr (Option.some.inj hk)
 obtain⟨g,rfl⟩:∃g,ao=some ⟨g,0,none⟩:=by
  rcases ho.2 with⟨e,h3⟩ | ⟨g,cap',cur,e,-⟩
  ·omega
  ·simp only[Value.slice.injEq] at e;exact⟨g,e.1⟩
 have hgo:=hown' g rfl;refine⟨wa,g,cap,w',hWa,hr,⟨row ++ [iv 0,iv 0,.string ⟨#[]⟩,sZ],by simpa using ho,fun k hk=>Or.inr hk,?_⟩,?_,?_⟩
 ·refine (((hall.base (B':=fun k=>P k∧k<wa.heap.size) (fun k h1 h2=>⟨by
   rcases h1.1 with h | h
   ·exact h
   ·exact absurd h h1.2,h2⟩)).append hone).since ⟨hg.size,fun k h1 h2=>hg.block k h2 (fun e=>hnk k e.symm h1.1)⟩).base (fun k h1 _=>?_)
  have hk:k≠g:=by
   rintro rfl;rcases hgo with e | e
   ·exact hnk k e h1.1
   ·have:=h1.2;omega
  exact⟨Or.inl ⟨h1.1,hk⟩,fun e=>hk (Option.some.inj e).symm⟩
 ·exact⟨hg.os.trans hba.os,hg.tape.trans hba.tape,hg.output.trans hba.output,Nat.le_trans hba.size hg.size,fun k h1 h2=>(hg.block k (Nat.lt_of_lt_of_le h2 hba.size) (fun e=>h1 e.symm)).trans (hba.block k h2)⟩
 ·rcases hgo with e | e
  ·exact Or.inl e
  ·exact Or.inr (by omega)
section
variable {e:En} {P:Nat->Prop} {ks:Value} {loc stk sts:List V} {fl q:Int} {dn:Bool} {x:V} {xs:Value} {w w':World}
theorem LS.pushed{y:V}{ys:Value}{g cap:Nat}{w8 w9:World}(h:LS e P ks loc stk sts fl q dn x xs w)(hy:IsW P w y ys)(hR:Rw (fun k=>P k∧k≠g) w8 (sL g 0 (stk.length+1) cap) (stk ++ [V.zero]))(hf8:Fr (fun k=>ks.ownBlock≠some k) w w8)(hgo:ks.ownBlock=some g∨w.heap.size<=g)
  (h9:w9=set4At (w8.setCell ⟨e.b,2,none⟩ (sL g 0 (stk.length+1) cap)) g (stk.length*4) (iv y.k) (iv y.n) (bz y.t) ys∨w9=(set4At w8 g (stk.length*4) (iv y.k) (iv y.n) (bz y.t) ys).setCell ⟨e.b,2,none⟩ (sL g 0 (stk.length+1) cap)) :
  LS e (fun k=>P k∧k≠g) (sL g 0 (stk.length+1) cap) loc (stk ++ [y]) sts fl q dn x xs w9∧Fr (fun k=>ks.ownBlock≠some k∧k≠e.b) w w9:=by
 have hbw:=h.fr.lt;have hgb:g≠e.b:=by
  rcases hgo with h1 | h1
  ·exact (h.lk g h1).2.1
  ·omega
 have hkb:ks.ownBlock≠some e.b:=fun e1=>(h.lk _ e1).2.1 rfl
 have hsF:Fr (fun k=>k≠g∧k≠e.b) w8 w9:=by
  have s4:∀wx,Fr (fun k=>k≠g∧k≠e.b) wx (set4At wx g (stk.length*4) (iv y.k) (iv y.n) (bz y.t) ys):=fun wx=>(((Fr.set (by simp) _ _).trans (Fr.set (by simp) _ _)).trans (Fr.set (by simp) _ _)).trans (Fr.set (by simp) _ _)
  have s1:∀wx v,Fr (fun k=>k≠g∧k≠e.b) wx (World.setCell wx ⟨e.b,2,none⟩ v):=fun wx v=>Fr.set (by simp) _ _
  rcases h9 with rfl | rfl
  ·exact (s1 _ _).trans (s4 _)
  ·exact (s4 _).trans (s1 _ _)
 have hF:Fr (fun k=>ks.ownBlock≠some k∧k≠e.b) w w9:=⟨hsF.os.trans hf8.os,hsF.tape.trans hf8.tape,hsF.output.trans hf8.output,Nat.le_trans hf8.size hsF.size,fun k hk hl=>(hsF.block k ⟨fun e1=>by
  rcases hgo with h1 | h1
  ·exact hk.1 (e1 ▸ h1)
  ·omega,hk.2⟩ (Nat.lt_of_lt_of_le hl hf8.size)).trans (hf8.block k hk.1 hl)⟩
 have hL8:Lf e.b e.p w8 e.ls ks q dn x xs:=h.fr.keep (hf8.block _ hkb hbw);have hL9:Lf e.b e.p w9 e.ls (sL g 0 (stk.length+1) cap) q dn x xs:=by
  rcases h9 with rfl | rfl
  ·exact (hL8.setK _).keep (Bu hgb.symm _ _ _ _ _)
  ·exact (hL8.keep (Bu hgb.symm _ _ _ _ _)).setK _
 have hy8:IsW (fun k=>P k∧k≠g) w8 y ys:=(hy.base (B':=fun k=>P k∧k≠g) (fun k hk hl=>⟨hk,fun e1=>by
  rcases hgo with h1 | h1
  ·exact h.nk g h1 (e1 ▸ hk)
  ·omega⟩)).since ⟨hf8.size,fun k hk hl=>hf8.block k (fun e1=>h.nk k e1 hk.1) hl⟩
 have hset:∀wx,Rw (fun k=>P k∧k≠g) wx (sL g 0 (stk.length+1) cap) (stk ++ [V.zero])->IsW (fun k=>P k∧k≠g) wx y ys->Rw (fun k=>P k∧k≠g) (set4At wx g (stk.length*4) (iv y.k) (iv y.n) (bz y.t) ys) (sL g 0 (stk.length+1) cap) (stk ++ [y]):=fun wx h1 h2=>by
  have h3:=h1.set (i:=stk.length) (x:=y) (by simp) (At.2 ⟨ys,rfl,h2.base (fun k hk _=>⟨Or.inl hk,hk.2⟩)⟩);rw[Ea (by simp)] at h3;have e1:(stk ++ [V.zero]).set stk.length y=stk ++ [y]:=by simp
  rw[e1] at h3;exact h3
 have hbs:∀{wx:World} {v:Value},Fr (fun k=>k≠e.b) wx (World.setCell wx ⟨e.b,2,none⟩ v):=fun {wx v}=>Fr.set (by simp) _ _
 have hstep:∀{wx:World} {v:Value} {l:List V},Rw (fun k=>P k∧k≠g) wx (sL g 0 (stk.length+1) cap) l->Rw (fun k=>P k∧k≠g) (World.setCell wx ⟨e.b,2,none⟩ v) (sL g 0 (stk.length+1) cap) l:=fun {wx v l} h1=>h1.since ⟨hbs.size,fun k hk hl=>hbs.block k (by
  rcases hk with hk | hk
  ·exact fun e1=>h.nb (e1 ▸ hk.1)
  ·exact fun e1=>hgb ((Option.some.inj hk).trans e1)) hl⟩
 have hk9:Rw (fun k=>P k∧k≠g) w9 (sL g 0 (stk.length+1) cap) (stk ++ [y]):=by
  rcases h9 with rfl | rfl
  ·exact hset _ (hstep hR) (hy8.since ⟨hbs.size,fun k hk hl=>hbs.block k (fun e1=>h.nb (e1 ▸ hk.1)) hl⟩)
  ·exact hstep (hset _ hR hy8)
 refine⟨h.grown hF hL9 (fun k hk=>hk.1) (fun k hk hl=>⟨hk,fun e1=>by
  rcases hgo with h1 | h1
  ·exact h.nk g h1 (e1 ▸ hk)
  ·omega⟩) hk9 (fun k e1=>⟨fun hk=>hk.2 (Option.some.inj e1).symm,by obtain rfl:=Option.some.inj e1;exact hgo⟩) (fun k hk=>⟨h.hi k (Nat.le_trans hF.size hk),fun e1=>?_⟩),hF⟩
 have:=(hk9.lt (k:=g) rfl).2;omega
theorem Ed{y:V}{ay:Option Addr}{cy:Nat}(h:LS e P ks loc stk sts fl q dn x xs w)(hy:IsW P w y (.slice ay y.l.length cy))(hn:stk.length+1<=900000):Calls Tryz.prog 40 #[pt e.b 0,.agg #[iv y.k,iv y.n,bz y.t,.slice ay y.l.length cy]] w fun r w'=>r=.returned (.tuple #[])∧(∃P' ks',(∀k,P' k->P k)∧LS e P' ks' loc (stk ++ [y]) sts fl q dn x xs w')∧Fr (fun k=>ks.ownBlock≠some k∧k≠e.b) w w':=by
 obtain⟨ak,ck,hks,hck,hcm⟩:=h.sk.slice;subst hks;obtain⟨w0,hW0,hb0,hsz,d0,d1,d2,d3⟩:=Aw w y (.slice ay y.l.length cy);have h0:=h.keep hb0;have hbd:Below w0.heap.size w0 w0.drew:=Af w0 1;have hB:Below w.heap.size w w0.drew:=hb0.trans (hbd.mono hb0.size);obtain⟨wa,g,cap,w8,hWa,hr8,hR8,hf8,hgo⟩:=Qj (h0.keep hbd).sk h.nk hn (h0.keep hbd).hi;have hbw:=h.fr.lt;have hbb:w.heap.size<w0.heap.size:=by omega
 obtain⟨b0,b1,b2,b3,b4⟩:=h0.fr.cells;have hgo':(Value.slice ak stk.length ck).ownBlock=some g∨w.heap.size<=g:=by
  rcases hgo with h1 | h1
  ·exact Or.inl h1
  ·have h2:w0.heap.size<=g:=h1;exact Or.inr (by omega)
 have hf8':Fr (fun k=>(Value.slice ak stk.length ck).ownBlock≠some k) w w8:=⟨hf8.os.trans hB.os,hf8.tape.trans hB.tape,hf8.output.trans hB.output,Nat.le_trans hB.size hf8.size,fun k hk hl=>(hf8.block k hk (Nat.lt_of_lt_of_le hl hB.size)).trans (hB.block k hl)⟩;have hgb:g≠e.b:=by
  rcases hgo' with h1 | h1
  ·exact (h.lk g h1).2.1
  ·omega
 obtain⟨g',u0,u1,u2,u3,e1,-,hg8,q0,q1,q2,q3,r0,r1,r2,r3⟩:=hR8.cells (i:=stk.length) (by simp);simp only[Option.some.injEq,Addr.mk.injEq] at e1;obtain⟨rfl,-⟩:=e1;have hkb:(Value.slice ak stk.length ck).ownBlock≠some e.b:=fun e1=>(h.lk _ e1).2.1 rfl
 have hL8:Lf e.b e.p w8 e.ls (.slice ak stk.length ck) q dn x xs:=h.fr.keep (hf8'.block _ hkb hbw);obtain⟨c0,c1,c2,c3,c4⟩:=hL8.cells;have f2:=hL8.open_ 2;have hl8:=hL8.lt;have hbg:e.b≠g:=fun e1=>hgb e1.symm
 have HP:∀w9,w9=set4At (w8.setCell ⟨e.b,2,none⟩ (sL g 0 (stk.length+1) cap)) g (stk.length*4) (iv y.k) (iv y.n) (bz y.t) (.slice ay y.l.length cy)∨w9=(set4At w8 g (stk.length*4) (iv y.k) (iv y.n) (bz y.t) (.slice ay y.l.length cy)).setCell ⟨e.b,2,none⟩ (sL g 0 (stk.length+1) cap)->(∃P' ks',(∀k,P' k->P k)∧LS e P' ks' loc (stk ++ [y]) sts fl q dn x xs w9)∧Fr (fun k=>(Value.slice ak stk.length ck).ownBlock≠some k∧k≠e.b) w w9:=fun w9 h9=>by
  obtain⟨h1,h2⟩:=h.pushed hy hR8 hf8' hgo' h9;exact⟨⟨_,_,fun k hk=>hk.1,h1⟩,h2⟩
 replace HP:Hid _:=HP;have hnI:(stk.length:Int)<((stk.length+1:Nat):Int):=by omega
 have hn0:(0:Int)<=(stk.length:Int):=by omega
 have hb8:e.b<w0.heap.size:=by have:=hb0.size;omega
 clear h hy h0 hR8 hf8 hf8' hgo hgo' hL8 hB hsz hbd;go_enter Tryz.func40,Tryz.ntmps40;go_wp2_with fail;refine wpE_begin (S:=fun w'=>w'.cell? ⟨e.b,2,none⟩=some (.slice ak stk.length ck)∧w'.cell? ⟨w.heap.size,0,none⟩=some (iv y.k)∧w'.cell? ⟨w.heap.size,1,none⟩=some (iv y.n)∧w'.cell? ⟨w.heap.size,2,none⟩=some (bz y.t)∧w'.cell? ⟨w.heap.size,3,none⟩=some (.slice ay y.l.length cy)) (N:=fun j=>decide (j<7)) (by kernel_rfl) ?_;have hS0:w0.drew.cell? ⟨e.b,2,none⟩=some (.slice ak stk.length ck)∧w0.drew.cell? ⟨w.heap.size,0,none⟩=some (iv y.k)∧w0.drew.cell? ⟨w.heap.size,1,none⟩=some (iv y.n)∧w0.drew.cell? ⟨w.heap.size,2,none⟩=some (bz y.t)∧w0.drew.cell? ⟨w.heap.size,3,none⟩=some (.slice ay y.l.length cy):=⟨b2,d0,d1,d2,d3⟩;refine Ab (some 4) [1,2,3,5,7,8,9,10,11,12] 0 (pt e.b 0) rfl rfl (by kernel_rfl) (fun _ _ _ h=>h) rfl (by intro w hS;(try dsimp only at hS);go_split_ands;go_simp) hS0 ?_
 try simp only[aP]
 refine Ab (some 5) [2,3,5,7,8,9,10,11,12] 1 (pt e.b 0) rfl rfl (by kernel_rfl) (fun _ _ _ h=>h) rfl (by intro w hS;(try dsimp only at hS);go_split_ands;go_simp) hS0 ?_
 try simp only[aP]
 refine Ab (some 6) [3,5,7,8,9,10,11,12] 2 (pt e.b 2) rfl rfl (by kernel_rfl) (fun _ _ _ h=>h) rfl (by intro w hS;(try dsimp only at hS);go_split_ands;go_simp) hS0 ?_
 try simp only[aP]
 refine Ab (some 7) [5,7,8,9,10,11,12] 3 (.slice ak stk.length ck) rfl rfl (by kernel_rfl) (fun _ _ _ h=>h) rfl (by intro w hS;(try dsimp only at hS);go_split_ands;go_simp) hS0 ?_
 try simp only[aP]
 refine Ab (some 8) [7,8,9,10,11,12] 4 (.agg #[iv y.k,iv y.n,bz y.t,.slice ay y.l.length cy]) rfl rfl (by kernel_rfl) (fun _ _ _ h=>h) rfl (by intro w hS;(try dsimp only at hS);go_split_ands;go_simp) hS0 ?_
 try simp only[aP]
 refine Ab (some 9) [7,8,9,10,11,12] 5 (iv (stk.length:Int)) rfl rfl (by kernel_rfl) (fun _ _ _ h=>h) rfl (by intro w hS;(try dsimp only at hS);go_split_ands;go_simp) hS0 ?_
 try simp only[aP]
 refine Ac (i:=6) (by kernel_rfl) rfl rfl (fun K hK=>?_);go_simp;refine hK _ _ (fun _=>by obtain⟨g0,g1,g2,g3,g4⟩:=hS0;rw[<-hWa];have hbx:w.heap.size<w0.drew.heap.size:=hbb;have hby:e.b<w0.drew.heap.size:=hb8;obtain⟨fx,-⟩:=Ag ((Below.refl w0.drew.heap.size w0.drew).alloc (Nat.le_refl _) (.cells #[iv 0,iv 0,.string ⟨#[]⟩,sZ] 31));exact⟨(fx _ _ hby).trans g0,(fx _ _ hbx).trans g1,(fx _ _ hbx).trans g2,(fx _ _ hbx).trans g3,(fx _ _ hbx).trans g4⟩) ?_;clear hK K
 try simp only[aP]
 refine Ac (i:=7) (by kernel_rfl) rfl rfl (fun K hK=>?_);refine Ay _ _ 22 rfl _ _ rfl rfl _ _ hr8 ?_;refine hK _ _ (fun h=>by cases h) ?_;clear hK K
 try simp only[aP]
 refine Ft (some 12) (i:=8) (v:=pt g (stk.length*4)) rfl rfl (by kernel_rfl) (by kernel_rfl) (by kernel_rfl) rfl (fun _ _ _ h=>h) rfl (fun w'=>by go_simp;intro hh;exfalso;omega) ?_
 try simp only[aP]
 refine Ft (some 13) (i:=10) (v:=pt e.b 0) rfl rfl (by kernel_rfl) (by kernel_rfl) (by kernel_rfl) rfl (fun _ _ _ h=>h) rfl (fun w'=>by go_simp) ?_
 try simp only[aP]
 refine Ft (some 14) (i:=11) (v:=pt e.b 2) rfl rfl (by kernel_rfl) (by kernel_rfl) (by kernel_rfl) rfl (fun _ _ _ h=>h) rfl (fun w'=>by go_simp) ?_
 try simp only[aP]
 refine Fb (i:=9) (j:=12) (by kernel_rfl) rfl rfl rfl rfl (fun K hK=>?_) (fun K hK=>?_)
 ·go_simp;refine hK _ _ (fun h=>by cases h) ?_;clear hK K
  try simp only[aP]
  refine Ac (i:=12) (by kernel_rfl) rfl rfl (fun K hK=>?_);go_simp;refine hK _ _ (fun h=>by cases h) ?_;clear hK K
  try simp only[aP]
  refine Am (by kernel_rfl) ?_;exact bodyPost_end (results_none rfl _ _ _) rfl ⟨rfl,HP.out _ (Or.inr rfl)⟩
 ·go_simp;refine hK _ _ (fun h=>by cases h) ?_;clear hK K
  try simp only[aP]
  refine Ac (i:=9) (by kernel_rfl) rfl rfl (fun K hK=>?_);go_simp;refine hK _ _ (fun h=>by cases h) ?_;clear hK K
  try simp only[aP]
  refine Am (by kernel_rfl) ?_;exact bodyPost_end (results_none rfl _ _ _) rfl ⟨rfl,HP.out _ (Or.inl rfl)⟩
end
inductive Rs where
 | go (q:Nat) (loc stk sts:List V) (fl:Int)
 | ret (v:V) (sts:List V) (fl:Int)
 | trap (t fl:Int)
def StP(e:En)(w:World):Rs->Ending->World->Prop
 | .go q loc stk sts fl,r,w'=>r=.returned (.tuple #[])∧(∃P ks,LS e P ks loc stk sts fl q false V.zero sZ w')∧Fx e w w'
 | .ret v sts fl,r,w'=>r=.returned (.tuple #[])∧(∃P ks loc stk q ax cx,LS e P ks loc stk sts fl q true v (.slice ax v.l.length cx) w'∧IsW P w' v (.slice ax v.l.length cx))∧Fx e w w'
 | .trap t fl,r,w'=>r=.panicked (Ca t)∧Lm e.p w' e.cs e.fs e.ds e.ss fl∧Fx e w w'
section
variable {e:En} {P:Nat->Prop} {ks:Value} {loc stk sts s:List V} {fl:Int} {q:Nat} {dn:Bool} {x y z:V} {xs:Value} {w w' w2:World} {q':Int}
theorem LS.fxb(h:LS e P ks loc stk sts fl q' dn x xs w)(hf:Fr (fun k=>k≠e.b) w w'):Fx e w w':=hf.mono (fun k hk=>by have:=h.lb;have:=hk.1;show k≠_;omega)
theorem LS.fxp(h:LS e P ks loc stk sts fl q' dn x xs w)(hf:Fr (fun k=>k≠e.p) w w'):Fx e w w':=hf.mono (fun k hk=>hk.2.1)
theorem LS.fxk(h:LS e P ks loc stk sts fl q' dn x xs w)(hf:Fr (fun k=>ks.ownBlock≠some k∧k≠e.b) w w'):Fx e w w':=hf.mono (fun k hk=>⟨fun e1=>by have:=(h.lk _ e1).1;have:=hk.1;omega,by have:=h.lb;have:=hk.1;omega⟩)
theorem LS.fxl{gl n cap:Nat}(he:e.ls=sL gl 0 n cap)(h:LS e P ks loc stk sts fl q' dn x xs w)(i:Nat)(x0 x1 x2 x3:Value):Fx e w (set4At w gl i x0 x1 x2 x3):=by
 have h1:=(h.ll gl (by rw[he];rfl)).1;have hg:∀{wx:World} {o:Nat} {v:Value},Fx e wx (World.setCell wx ⟨gl,o,none⟩ v):=fun {wx o v}=>Fr.set (fun hk=>by have:=hk.1;omega) _ _
 exact ((hg.trans hg).trans hg).trans hg
theorem LS.fxs{gl n cap:Nat}(he:e.ss=sL gl 0 n cap)(i:Nat)(x0 x1 x2 x3:Value):Fx e w (set4At w gl i x0 x1 x2 x3):=by
 have hg:∀{wx:World} {o:Nat} {v:Value},Fx e wx (World.setCell wx ⟨gl,o,none⟩ v):=fun {wx o v}=>Fr.set (fun hk=>hk.2.2 (by rw[he];rfl)) _ _
 exact ((hg.trans hg).trans hg).trans hg
theorem StP.push{r:Ending}(h:LS e P ks loc stk sts fl q false V.zero sZ w)(hw:Fx e w2 w)(hp:r=.returned (.tuple #[])∧(∃P' ks',(∀k,P' k->P k)∧LS e P' ks' loc (stk ++ [y]) sts fl q false V.zero sZ w')∧Fr (fun k=>ks.ownBlock≠some k∧k≠e.b) w w'):StP e w2 (.go q loc (stk ++ [y]) sts fl) r w':=by
 obtain⟨rfl,⟨P',ks',-,h1⟩,hf⟩:=hp;exact⟨rfl,⟨P',ks',h1⟩,hw.trans (h.fxk hf)⟩
theorem To{i:Nat}{c:V}(h:LS e P ks loc stk sts fl q false V.zero sZ w)(hc:e.m.consts[i]?=some c)(hn:stk.length+1<=900000):Calls Tryz.prog 39 #[pt e.b 0,iv (i:Int)] w (StP e w (.go q loc (stk ++ [c]) sts fl)):=by
 obtain⟨ac,cc,hcs,hcl,hcm⟩:=h.md.con.slice;have hcon:=h.md.con;rw[hcs] at hcon;have hlt:=(List.getElem?_eq_some_iff.1 hc).1;obtain⟨g,o,ax,cx,rfl,_,hg,c0,c1,c2,c3,hw⟩:=hcon.get hc;obtain⟨b0,-⟩:=h.fr.cells;obtain⟨m0,-⟩:=Ak h.mc;rw[hcs] at m0;have hbl:=h.fr.lt;have hml:=h.mc.lt;have hI:(i:Int)<(e.m.consts.length:Int):=by omega
 have hI0:(0:Int)<=(i:Int):=by omega
 have HP:∀r w',_->StP e w (.go q loc (stk ++ [c]) sts fl) r w':=fun r w' hp=>StP.push h (Fr.refl _ _) hp
 replace HP:Hid _:=HP;have hC:=Ed h hw hn;clear h hc hw hcon hcs hlt;generalize e.m.consts.length=L at *;go_enter Tryz.func39,Tryz.ntmps39;go_wp2_with fail;refine hC.mono ?_;rintro r w1 hp;have hfin:=HP.out r w1 hp;obtain⟨rfl,-⟩:=hp;clear hC HP;go_wp2_with fail
 go_end0
 exact hfin
theorem V2{i:Nat}{c:V}(h:LS e P ks loc stk sts fl q false V.zero sZ w)(hc:loc[i]?=some c)(hn:stk.length+1<=900000):Calls Tryz.prog 41 #[pt e.b 0,iv (i:Int)] w (StP e w (.go q loc (stk ++ [c]) sts fl)):=by
 obtain⟨ac,cc,hcs,hcl,hcm⟩:=h.lc.slice;have hcon:=h.lc;rw[hcs] at hcon;have hlt:=(List.getElem?_eq_some_iff.1 hc).1;obtain⟨g,ax,cx,e1,hg,-,c0,c1,c2,c3,-,-,-,-,hw⟩:=Gv.get hcon hc;subst e1;obtain⟨-,b1,-⟩:=h.fr.cells;rw[hcs] at b1;have hbl:=h.fr.lt;have hI:(i:Int)<(loc.length:Int):=by omega
 have hI0:(0:Int)<=(i:Int):=by omega
 have HP:∀r w',_->StP e w (.go q loc (stk ++ [c]) sts fl) r w':=fun r w' hp=>StP.push h (Fr.refl _ _) hp
 replace HP:Hid _:=HP;have hC:=Ed h (hw.base (B':=P) (fun k hk _=>by rcases hk.1 with h | h;exact h;exact absurd h hk.2)) hn;clear h hc hw hcon hcs hlt;go_enter Tryz.func41,Tryz.ntmps41;go_wp2_with fail;refine hC.mono ?_;rintro r w1 hp;have hfin:=HP.out r w1 hp;obtain⟨rfl,-⟩:=hp;clear hC HP;go_wp2_with fail
 go_end0
 exact hfin
theorem Xj{i:Nat}{c:V}(h:LS e P ks loc stk sts fl q false V.zero sZ w)(hc:sts[i]?=some c)(hn:stk.length+1<=900000):Calls Tryz.prog 44 #[pt e.b 0,iv (i:Int)] w (StP e w (.go q loc (stk ++ [c]) sts fl)):=by
 obtain⟨ac,cc,hcs,hcl,hcm⟩:=h.st.slice;have hcon:=h.st;rw[hcs] at hcon;have hlt:=(List.getElem?_eq_some_iff.1 hc).1;obtain⟨g,ax,cx,e1,hg,-,c0,c1,c2,c3,-,-,-,-,hw⟩:=Gv.get hcon hc;subst e1;obtain⟨b0,-⟩:=h.fr.cells;obtain⟨-,-,-,m3,-⟩:=Ak h.mc;rw[hcs] at m3;have hbl:=h.fr.lt;have hml:=h.mc.lt;have hI:(i:Int)<(sts.length:Int):=by omega
 have hI0:(0:Int)<=(i:Int):=by omega
 have HP:∀r w',_->StP e w (.go q loc (stk ++ [c]) sts fl) r w':=fun r w' hp=>StP.push h (Fr.refl _ _) hp
 replace HP:Hid _:=HP;have hC:=Ed h (hw.base (B':=P) (fun k hk _=>by rcases hk.1 with h | h;exact h;exact absurd h hk.2)) hn;clear h hc hw hcon hcs hlt;go_enter Tryz.func44,Tryz.ntmps44;go_wp2_with fail;refine hC.mono ?_;rintro r w1 hp;have hfin:=HP.out r w1 hp;obtain⟨rfl,-⟩:=hp;clear hC HP;go_wp2_with fail
 go_end0
 exact hfin
theorem Xk(a:Int)(h:LS e P ks loc (s ++ [y]) sts fl q false V.zero sZ w):Calls Tryz.prog 46 #[pt e.b 0,iv a] w (StP e w (.go q loc s sts fl)):=by
 have hC:=Dc h;have HF:Hid (∀w',Fr (fun k=>k≠e.b) w w'->Fx e w w'):=fun w' hf=>h.fxb hf
 clear h;go_enter Tryz.func46,Tryz.ntmps46;go_wp2_with fail;refine hC.mono ?_;rintro r w1 ⟨⟨ay,cy,rfl,-⟩,⟨ks',h1⟩,hf1⟩;have hfin:Hid (StP e w (.go q loc s sts fl) (.returned (.tuple #[])) w1):=⟨rfl,⟨P,ks',h1⟩,HF.out _ hf1⟩;clear hC HF h1 hf1;go_wp2_with fail
 go_end0
 exact hfin.out
def N3(q tt:Nat)(loc stk sts:List V)(fl:Int):Rs:=if tt<q then (if fl<1 then .trap 54 0 else .go tt loc stk sts (fl - 1)) else .go tt loc stk sts fl
theorem Pj{tt:Nat}(h:LS e P ks loc stk sts fl q false V.zero sZ w)(hfl:fl<=4096):Calls Tryz.prog 47 #[pt e.b 0,iv (tt:Int)] w (StP e w (N3 q tt loc stk sts fl)):=by
 obtain⟨b0,b1,b2,b3,b4⟩:=h.fr.cells;have f3:=h.fr.open_ 3;have hbl:=h.fr.lt;have hml:=h.mc.lt;unfold N3;by_cases hq:tt<q
 ·have hqI:(tt:Int)<(q:Int):=by omega
  rw[if_pos hq];by_cases hf:fl<1
  ·rw[if_pos hf];have hC:=Fs h.mc (n:=1) hf;have hfin:Hid (StP e w (.trap 54 0) (.panicked (Ca 54)) (w.setCell ⟨e.p,4,none⟩ (iv 0))):=⟨rfl,h.mc.set 0,h.fxp (Fr.set (by simp) _ _)⟩;clear h hf hq;go_enter Tryz.func47,Tryz.ntmps47;go_wp2_with fail;refine hC.mono ?_;rintro r w1 ⟨rfl,rfl⟩;exact⟨rfl,hfin.out⟩
  ·rw[if_neg hf];have hC:=Gr h.mc (n:=1) hf (by omega) hfl;have hpb:e.p≠e.b:=by have:=h.pl;have:=h.lb;omega
   have h1:=h.fuel (Fr.set (w:=w) (g:=e.p) (by simp) 4 (iv (fl - 1))) (h.mc.set (fl - 1));have h2:=h1.frame (Fr.set (by simp) 3 (iv (tt:Int))) (h1.fr.setQ (tt:Int));have hfin:Hid (StP e w (.go tt loc stk sts (fl - 1)) (.returned (.tuple #[])) ((w.setCell ⟨e.p,4,none⟩ (iv (fl - 1))).setCell ⟨e.b,3,none⟩ (iv (tt:Int)))):=⟨rfl,⟨P,ks,h2⟩,(h.fxp (Fr.set (by simp) _ _)).trans (h1.fxb (Fr.set (by simp) _ _))⟩;obtain⟨d0,d1,d2,d3,d4⟩:=h1.fr.cells;have f3':=h1.fr.open_ 3;have hbl':=h1.fr.lt;clear h h1 h2 hf hq;generalize w.setCell ⟨e.p,4,none⟩ (iv (fl - 1))=w1 at *;go_enter Tryz.func47,Tryz.ntmps47;go_wp2_with fail;refine hC.mono ?_;rintro r w3 ⟨rfl,hw⟩;subst hw;go_wp2_with fail
   go_end0
   exact hfin.out
 ·have hqI:¬(tt:Int)<(q:Int):=by omega
  rw[if_neg hq];have h2:=h.frame (Fr.set (by simp) 3 (iv (tt:Int))) (h.fr.setQ (tt:Int));have hfin:Hid (StP e w (.go tt loc stk sts fl) (.returned (.tuple #[])) (w.setCell ⟨e.b,3,none⟩ (iv (tt:Int)))):=⟨rfl,⟨P,ks,h2⟩,h.fxb (Fr.set (by simp) _ _)⟩;clear h h2 hq;go_enter Tryz.func47,Tryz.ntmps47;go_wp2_with fail
  go_end0
  exact hfin.out
theorem StP.fx{R:Rs}{r:Ending}(hw:Fx e w2 w)(h:StP e w R r w'):StP e w2 R r w':=by
 cases R
 ·exact⟨h.1,h.2.1,hw.trans h.2.2⟩
 ·exact⟨h.1,h.2.1,hw.trans h.2.2⟩
 ·exact⟨h.1,h.2.1,hw.trans h.2.2⟩
noncomputable def V3 (y:V) (q tt:Nat) (loc stk sts:List V) (fl:Int):Rs:=if y.k≠2 then .trap 40 fl else if (y.n == 1)=true then .go q loc stk sts fl else N3 q tt loc stk sts fl
theorem Qm{tt:Nat}(h:LS e P ks loc (s ++ [y]) sts fl q false V.zero sZ w)(hfl:fl<=4096):Calls Tryz.prog 48 #[pt e.b 0,iv (tt:Int)] w (StP e w (V3 y q tt loc s sts fl)):=by
 unfold V3;have HF:Hid (∀w',Fr (fun k=>k≠e.b) w w'->Fx e w w'):=fun w' hf=>h.fxb hf
 by_cases hk:y.k≠2
 ·rw[if_pos hk];have hC:=J4 h hk;have hm:=h.mc;have hpb:e.p≠e.b:=by have:=h.pl;have:=h.lb;omega
  have Hm:Hid (∀w',Fr (fun k=>k≠e.b) w w'->Lm e.p w' e.cs e.fs e.ds e.ss fl):=fun w' hf=>hm.keep (hf.block _ hpb hm.lt)
  clear h hk hm;go_enter Tryz.func48,Tryz.ntmps48;go_wp2_with fail;refine hC.mono ?_;rintro r w1 ⟨rfl,hf1⟩;exact⟨rfl,rfl,Hm.out _ hf1,HF.out _ hf1⟩
 ·rw[if_neg hk];have hC:=Iw h (Classical.not_not.1 hk);clear h hk;rcases hb:(y.n == 1) with _ | _
  ·rw[if_neg (by simp)];rw[hb] at hC;clear hb;go_enter Tryz.func48,Tryz.ntmps48;go_wp2_with fail;refine hC.mono ?_;rintro r w1 ⟨rfl,⟨ks',h1⟩,hf1⟩;have hJ:=Pj (tt:=tt) h1 hfl;have hfx:=HF.out _ hf1;clear hC HF hf1 h1;go_wp2_with fail;refine hJ.mono ?_;intro r w3 hr;have hS:=StP.fx hfx hr;unfold N3 at hr hS ⊢;clear hJ;split at hr
   ·split at hr
    ·obtain⟨rfl,-⟩:=hr;exact⟨rfl,hS⟩
    ·obtain⟨rfl,-⟩:=hr;have HS:Hid _:=hS;clear hS;go_wp2_with fail
     go_end0
     exact HS.out
   ·obtain⟨rfl,-⟩:=hr;have HS:Hid _:=hS;clear hS;go_wp2_with fail
    go_end0
    exact HS.out
  ·rw[if_pos rfl];rw[hb] at hC;clear hb;go_enter Tryz.func48,Tryz.ntmps48;go_wp2_with fail;refine hC.mono ?_;rintro r w1 ⟨rfl,⟨ks',h1⟩,hf1⟩;have hfin:Hid (StP e w (.go q loc s sts fl) (.returned (.tuple #[])) w1):=⟨rfl,⟨P,ks',h1⟩,HF.out _ hf1⟩;clear hC HF h1 hf1;go_wp2_with fail
   go_end0
   exact hfin.out
theorem Xl(a:Int)(h:LS e P ks loc (s ++ [y]) sts fl q false V.zero sZ w):Calls Tryz.prog 50 #[pt e.b 0,iv a] w (StP e w (.ret y sts fl)):=by
 have hC:=Dc h;have HF:Hid (∀w',Fr (fun k=>k≠e.b) w w'->Fx e w w'):=fun w' hf=>h.fxb hf
 clear h;go_enter Tryz.func50,Tryz.ntmps50;go_wp2_with fail;refine hC.mono ?_;rintro r w1 ⟨⟨ay,cy,rfl,hy⟩,⟨ks',h1⟩,hf1⟩;have hl1:=h1.fr.setA y (.slice ay y.l.length cy);obtain⟨a5,a6,a7,a8⟩:=h1.fr.ans;have f5:=h1.fr.open_ 5;have f6:=h1.fr.open_ 6;have f7:=h1.fr.open_ 7;have f8:=h1.fr.open_ 8;have hbl:=h1.fr.lt;have hFA:Fr (fun k=>k≠e.b) w1 (set4At w1 e.b 5 (iv y.k) (iv y.n) (bz y.t) (.slice ay y.l.length cy)):=(((Fr.set (by simp) _ _).trans (Fr.set (by simp) _ _)).trans (Fr.set (by simp) _ _)).trans (Fr.set (by simp) _ _);have h2:=h1.frame hFA hl1;obtain⟨w2,hW2⟩:∃w2,set4At w1 e.b 5 (iv y.k) (iv y.n) (bz y.t) (.slice ay y.l.length cy)=w2:=⟨_,rfl⟩;rw[hW2] at h2 hFA;unfold set4At at hW2;have hFB:Fr (fun k=>k≠e.b) w2 (w2.setCell ⟨e.b,4,none⟩ (.bool true)):=Fr.set (by simp) _ _;have h3:=h2.frame hFB (h2.fr.setD true);have hfin:Hid (StP e w (.ret y sts fl) (.returned (.tuple #[])) (w2.setCell ⟨e.b,4,none⟩ (.bool true))):=⟨rfl,⟨P,ks',loc,s,q,ay,cy,h3,hy.since ⟨(hFA.trans hFB).size,fun k hk hl=>(hFA.trans hFB).block k (fun e1=>h1.nb (e1 ▸ hk)) hl⟩⟩,HF.out _ ((hf1.trans hFA).trans hFB)⟩;obtain⟨-,-,-,-,d4⟩:=h2.fr.cells;have f4:=h2.fr.open_ 4;have hbl2:=h2.fr.lt;clear hC HF h1 hf1 h2 h3 hFA hFB hy hl1;go_wp2_with fail
 go_end0
 exact hfin.out
end
theorem Fl(w:World)(op a:Int):∃wa wb wz wc,w.alloc (.cells #[iv op,iv a] 48)=wa∧wa.alloc (.cells #[iv 0,iv 0,.string ⟨#[]⟩,sZ] 31)=wb∧wb.alloc (.cells #[iv 0,iv 0,.string ⟨#[]⟩,sZ] 31)=wz∧(((wz.setCell ⟨wb.heap.size,0,none⟩ (iv 0)).setCell ⟨wb.heap.size,1,none⟩ (iv 0)).setCell ⟨wb.heap.size,2,none⟩ (.string ⟨#[]⟩)).setCell ⟨wb.heap.size,3,none⟩ sZ=wc∧wb.heap.size<wz.heap.size∧wz.heap[wb.heap.size]?=some (.cells #[iv 0,iv 0,.string ⟨#[]⟩,sZ] 31 (0,0))∧w.heap.size<wa.heap.size∧wa.heap.size<wb.heap.size∧wb.heap.size<wc.heap.size∧Below w.heap.size w wc ∧
  wc.heap[w.heap.size]?=some (.cells #[iv op,iv a] 48 (0,0))∧wc.heap[wa.heap.size]?=some (.cells #[iv 0,iv 0,.string ⟨#[]⟩,sZ] 31 (0,0))∧wc.heap[wb.heap.size]?=some (.cells #[iv 0,iv 0,.string ⟨#[]⟩,sZ] 31 (0,0)):=by
 obtain⟨wa,hWa,hba,hla,hxa⟩:=Dq w (iv op) (iv a) 48;obtain⟨wb,hWb,hbb,hlb,hxb⟩:=Co wa;obtain⟨wz,hWz,hbz,hlz,hxz⟩:=Co wb;obtain⟨wc,hWc,hxc,hbc⟩:=Cq hxz (Nat.le_refl _) hbz (iv 0) (iv 0) (.string ⟨#[]⟩) sZ;have lc:wb.heap.size<wc.heap.size:=(Array.getElem?_eq_some_iff.1 hxc).1;exact⟨wa,wb,wz,wc,hWa,hWb,hWz,hWc,hlz,hxz,by omega,hlb,lc,hba.trans ((hbb.trans (hbc.mono hbb.size)).mono hba.size),(hbc.block _ (by omega)).trans ((hbb.block _ (by omega)).trans hxa),(hbc.block _ hlb).trans hxb,hxc⟩
theorem Ch{p:Nat}{cs fs ss:Value}{fl:Int}{w wc w5:World}{o:V × Int}{ao:Option Addr}{cap:Nat}{y0 y1 y2 y3 z0 z1 z2 z3:Value}{G6 G7:Nat}(hm:Mc p w cs fs ss fl 0)(g6:w.heap.size<=G6)(g67:G6<G7)(g7:G7<wc.heap.size)(hbc:Below w.heap.size w wc)(hb5:Below wc.heap.size wc w5)(hz6:wc.heap[G6]?=some (.cells #[y0,y1,y2,y3] 31 (0,0)))(hz7:wc.heap[G7]?=some (.cells #[z0,z1,z2,z3] 31 (0,0)))(hx:IsW (From wc.heap.size) w5 o.1 (.slice ao o.1.l.length cap)) :
  ∃w6 w8,(((w5.setCell ⟨G7,0,none⟩ (iv o.1.k)).setCell ⟨G7,1,none⟩ (iv o.1.n)).setCell ⟨G7,2,none⟩ (.string ⟨o.1.t.toArray⟩)).setCell ⟨G7,3,none⟩ (.slice ao o.1.l.length cap)=w6 ∧
   Calls Tryz.prog 73 #[pt p 0,iv o.2] w6 (fun r w'=>r=.returned (.tuple #[])∧w'=w6.setCell ⟨p,4,none⟩ (iv o.2)) ∧
   (∀w7,w7=w6.setCell ⟨p,4,none⟩ (iv o.2)->w7.cell? ⟨G7,0,none⟩=some (iv o.1.k)∧w7.cell? ⟨G7,1,none⟩=some (iv o.1.n)∧w7.cell? ⟨G7,2,none⟩=some (.string ⟨o.1.t.toArray⟩)∧w7.cell? ⟨G7,3,none⟩=some (.slice ao o.1.l.length cap) ∧
    w7.cell? ⟨G6,0,none⟩=some y0∧w7.cell? ⟨G6,1,none⟩=some y1∧w7.cell? ⟨G6,2,none⟩=some y2∧w7.cell? ⟨G6,3,none⟩=some y3∧w7.frozen? ⟨G6,0,none⟩=false∧w7.frozen? ⟨G6,1,none⟩=false∧w7.frozen? ⟨G6,2,none⟩=false∧w7.frozen? ⟨G6,3,none⟩=false∧G6<w7.heap.size∧G7<w7.heap.size ∧
    (((w7.setCell ⟨G6,0,none⟩ (iv o.1.k)).setCell ⟨G6,1,none⟩ (iv o.1.n)).setCell ⟨G6,2,none⟩ (.string ⟨o.1.t.toArray⟩)).setCell ⟨G6,3,none⟩ (.slice ao o.1.l.length cap)=w8) ∧
   w8.cell? ⟨G6,0,none⟩=some (iv o.1.k)∧w8.cell? ⟨G6,1,none⟩=some (iv o.1.n)∧w8.cell? ⟨G6,2,none⟩=some (.string ⟨o.1.t.toArray⟩)∧w8.cell? ⟨G6,3,none⟩=some (.slice ao o.1.l.length cap)∧G6<w8.heap.size ∧
   RMk p cs fs ss fl o w (.returned (.agg #[iv o.1.k,iv o.1.n,.string ⟨o.1.t.toArray⟩,.slice ao o.1.l.length cap])) w8:=by
 have hlp:=hm.lt;have h57:w5.heap[G7]?=some (.cells #[z0,z1,z2,z3] 31 (0,0)):=(hb5.block _ (by omega)).trans hz7;have h56:w5.heap[G6]?=some (.cells #[y0,y1,y2,y3] 31 (0,0)):=(hb5.block _ (by omega)).trans hz6;obtain⟨w6,hW6,hx6,hf6,hs6⟩:=Qh h57 (iv o.1.k) (iv o.1.n) (.string ⟨o.1.t.toArray⟩) (.slice ao o.1.l.length cap);have s5:=hb5.size;have hm5:Mc p w5 cs fs ss fl 0:=hm.keep ((hb5.block _ (by omega)).trans (hbc.block _ hlp));have hm6:Mc p w6 cs fs ss fl 0:=hm5.keep (hf6.block _ (by show p≠_;omega) (by omega));have hm7:=hm6.setT o.2;have hF7:Fr (fun k=>k≠p) w6 (w6.setCell ⟨p,4,none⟩ (iv o.2)):=Fr.set (by simp) _ _;have h67:=(hf6.block (G6) (by show _≠_;omega) (by omega)).trans h56;have h77:=(hF7.block (G7) (by show _≠_;omega) (by omega)).trans hx6;have h76:=(hF7.block (G6) (by show _≠_;omega) (by omega)).trans h67;obtain⟨w8,hW8,hx8,hf8,hs8⟩:=Qh h76 (iv o.1.k) (iv o.1.n) (.string ⟨o.1.t.toArray⟩) (.slice ao o.1.l.length cap);have s7:(w6.setCell ⟨p,4,none⟩ (iv o.2)).heap.size=w6.heap.size:=by simp[World.setCell]
 obtain⟨a0,a1,a2,a3,-⟩:=Aa h77;obtain⟨b0,b1,b2,b3,k0,k1,k2,k3⟩:=Aa h76;obtain⟨e0,e1,e2,e3,-⟩:=Aa hx8;refine⟨w6,w8,hW6,E5 hm6 o.2,?_,e0,e1,e2,e3,by omega,⟨ao,cap,rfl,?_⟩,hm7.keep (hf8.block _ (by show p≠_;omega) (by omega)),?_⟩
 ·rintro w7 rfl;exact⟨a0,a1,a2,a3,b0,b1,b2,b3,k0,k1,k2,k3,by omega,by omega,hW8⟩
 ·refine (hx.since ⟨by omega,fun k hk hl=>?_⟩).base (fun k hk hl=>?_)
  ·have hk':wc.heap.size<=k:=hk;rw[hf8.block k (by show _≠_;omega) (by omega),hF7.block k (by show _≠_;omega) (by omega),hf6.block k (by show _≠_;omega) (by omega)]
  ·have hk':wc.heap.size<=k:=hk;show w.heap.size<=k;omega
 ·have hB5:Below w.heap.size w w5:=hbc.trans (hb5.mono hbc.size);refine⟨?_,?_,?_,by have:=hB5.size;omega,fun k hk hl=>?_⟩
  ·rw[hf8.os,hF7.os,hf6.os,hB5.os]
  ·rw[hf8.tape,hF7.tape,hf6.tape,hB5.tape]
  ·rw[hf8.output,hF7.output,hf6.output,hB5.output]
  ·have:=hB5.size;have hk':k≠p:=hk;rw[hf8.block k (by show _≠_;omega) (by omega),hF7.block k hk' (by omega),hf6.block k (by show _≠_;omega) (by omega),hB5.block k hl]
end
end Go.Proofs.YtnijcolomoobnaaGreatDoor
