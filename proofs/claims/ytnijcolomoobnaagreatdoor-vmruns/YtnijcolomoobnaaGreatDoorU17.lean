/- Texts of ours, joined. -/
import Derived.Test.YtnijcolomoobnaaGreatDoorU13
set_option linter.unusedVariables false
set_option linter.unusedSimpArgs false
set_option maxRecDepth 100000
set_option maxHeartbeats 16000000
namespace Go.Proofs.YtnijcolomoobnaaGreatDoor
section
open Go.RowKit
attribute [local go_sem ↓] Go.wp_at_zero Go.wp_at_succ
theorem Br.kept{Q:Nat->Prop}{w w3:World}{o:V × Int}{ao:Option Addr}{cap:Nat}{g:Nat}(hx:IsW Q w3 o.1 (.slice ao o.1.l.length cap))(hb:Below w.heap.size w w3)(hg:w.heap.size<=g)(hQ:¬Q g)(hQ':∀k,Q k->w.heap.size<=k) :
  Br w o (.returned (.tuple #[.agg #[iv o.1.k,iv o.1.n,.string ⟨o.1.t.toArray⟩,.slice ao o.1.l.length cap],iv o.2])) (Cx w3 g (iv o.1.k) (iv o.1.n) (.string ⟨o.1.t.toArray⟩) (.slice ao o.1.l.length cap)):=
 ⟨⟨ao,cap,rfl,(hx.since (Ba hQ _ _ _ _)).base (fun k hk _=>hQ' k hk)⟩,Aj hb hg _ _ _ _⟩
theorem Cg(w:World)(x0 x1 x2 x3:Value):∃wz w4,w.alloc (.cells #[iv 0,iv 0,.string ⟨#[]⟩,sZ] 31)=wz∧Cx wz w.heap.size x0 x1 x2 x3=w4∧Below w.heap.size w w4∧w4.heap.size=w.heap.size+1∧wz.heap.size=w.heap.size+1∧w4.heap[w.heap.size]?=some (.cells #[x0,x1,x2,x3] 31 (0,0)) ∧
  (wz.cell? ⟨w.heap.size,0,none⟩=some (iv 0)∧wz.cell? ⟨w.heap.size,1,none⟩=some (iv 0)∧wz.cell? ⟨w.heap.size,2,none⟩=some (.string ⟨#[]⟩)∧wz.cell? ⟨w.heap.size,3,none⟩=some sZ)∧(wz.frozen? ⟨w.heap.size,0,none⟩=false∧wz.frozen? ⟨w.heap.size,1,none⟩=false∧wz.frozen? ⟨w.heap.size,2,none⟩=false∧wz.frozen? ⟨w.heap.size,3,none⟩=false):=by
 obtain⟨wz,hWz,hbz,hszz,hrz⟩:=G5 w;obtain⟨y0,y1,y2,y3,z0,z1,z2,z3,hzz⟩:=hrz wz (Below.refl _ _);exact⟨wz,_,hWz,rfl,Aj hbz (Nat.le_refl _) _ _ _ _,by rw[D3];omega,hszz,E0 (E1 hWz (Below.refl _ _)) _ _ _ _,⟨y0,y1,y2,y3⟩,⟨z0,z1,z2,z3⟩⟩
theorem Rf{B:Nat->Prop}{v x:V}{ao ax:Option Addr}{cap cx:Nat}{w:World}(hv:IsW B w v (.slice ao v.l.length cap))(hx:IsW B w x (.slice ax x.l.length cx))(hwv:wt v<=200000)(hwx:wt x<=200000) :
  Calls Tryz.prog 111 #[.agg #[iv v.k,iv v.n,bz v.t,.slice ao v.l.length cap],.agg #[iv x.k,iv x.n,bz x.t,.slice ax x.l.length cx]] w fun r w'=>Br w (pushV v x) r w':=by
 obtain⟨ao',cap',e,c1,c2⟩:=hv.vs.slice;simp only[Value.slice.injEq] at e;obtain⟨rfl,-,rfl⟩:=e;have hwts:=Bw v;have hlv:=A4 v.l;obtain⟨w0,w1,w2,hW,hW1,hW2,hs0,hs1,hs2,hB2,hc,hr⟩:=Fc w v (.slice ao v.l.length cap) x (.slice ax x.l.length cx);obtain⟨a0,a1,a2,a3,b0,b1,b2,b3⟩:=hc w2 (Below.refl _ _);by_cases hk:v.k=4
 ·have hk':(v.k != 4)=false:=by simp[hk]
  by_cases h64:64<=v.l.length
  ·have h64I:(64:Int)<=(v.l.length:Int):=by omega
   have hfin:pushV v x=(V.zero,53):=by unfold pushV;rw[if_neg (by simp[hk]),if_pos h64]
   obtain⟨r0,r1,r2,r3,s0,s1,s2,s3,hz⟩:=hr w2 (Below.refl _ _);have hres:=Bk (e:=53) (Aj hB2 (g:=w.heap.size+2) (by omega) (iv 0) (iv 0) (.string ⟨#[]⟩) sZ);rw[<-hfin] at hres;clear hr hc hv hx hk hfin;go_enter Tryz.func111,Tryz.ntmps111;go_wp2_with fail;exact bodyPost_ret (v:=.tuple #[.agg #[iv 0,iv 0,.string ⟨#[]⟩,sZ],iv 53]) (by simp[results,Tryz.results111,go_sem,hz,r0,r1,r2,r3]) rfl hres
  ·have h64I:¬(64:Int)<=(v.l.length:Int):=by omega
   obtain⟨u,HU⟩:∃u:V,Hid (u=.mk v.k v.n v.t (v.l ++ [x])):=⟨_,rfl⟩;have hfin:Hid (pushV v x=wgV u):=by show _=_;unfold pushV;rw[if_neg (by simp[hk]),if_neg h64,HU.out]
   have huw:wt u<=1000000:=by rw[HU.out,H4,Bl];simp only[wts];omega
   have huk:Hid (u.k=v.k∧u.n=v.n∧u.t=v.t∧u.l=v.l ++ [x]):=by rw[HU.out];exact⟨rfl,rfl,rfl,rfl⟩
   have hCv:=Az _ v _ B w2 (Nat.lt_succ_self _) (by omega) (hv.below hB2);have hCx:∀w3,Below w2.heap.size w2 w3->Calls Tryz.prog 17 #[.agg #[iv x.k,iv x.n,bz x.t,.slice ax x.l.length cx]] w3 fun r w'=>D7 w3 x r w':=fun w3 hb3=>Az _ x _ B w3 (Nat.lt_succ_self _) (by omega) ((hx.below hB2).below hb3)
   have hvr:=(⟨hv.txt,hv.kr,hv.nr⟩:v.t.length<=maxLen∧InR v.k∧InR v.n);clear hv hx hk HU;go_enter Tryz.func111,Tryz.ntmps111;go_wp2_with fail;refine hCv.mono ?_;rintro e w3 ⟨⟨av,cv,rfl,-,hG3⟩,hb3⟩;clear hCv;obtain⟨wz,w4,hWz,hW4,hb34,hs4,hsz,hblk4,⟨y0,y1,y2,y3⟩,⟨z0,z1,z2,z3⟩⟩:=Cg w3 (iv v.k) (iv v.n) (bz v.t) (.slice av v.l.length cv);have hs3:=hb3.size;have hb24:Below w2.heap.size w2 w4:=hb3.trans (hb34.mono hs3);have hG4:Gv (fun k=>w.heap.size+3<=k∧k≠w3.heap.size) w4 (.slice av v.l.length cv) v.l:=(hG3.base (P':=fun k=>w.heap.size+3<=k∧k≠w3.heap.size) (fun k h1 h2=>⟨by have:w2.heap.size<=k:=h1;omega,by omega⟩)).below hb34;have hap:(Value.slice av v.l.length cv).ownBlock≠some w3.heap.size:=hG3.apart (Nat.le_refl _);obtain⟨-,-,-,-,e0,e1,e2,e3⟩:=hc w4 hb24;obtain⟨q0,q1,q2,q3,-⟩:=Aa hblk4;have hCx4:=hCx w4.drew (hb24.trans ((Af w4 1).mono hb24.size));clear hG3 hc hCx;go_wp2_with fail;refine wpE_begin (S:=fun w'=>w'.cell? ⟨w3.heap.size,3,none⟩=some (.slice av v.l.length cv)∧w'.cell? ⟨w.heap.size+1,0,none⟩=some (iv x.k)∧w'.cell? ⟨w.heap.size+1,1,none⟩=some (iv x.n)∧w'.cell? ⟨w.heap.size+1,2,none⟩=some (bz x.t)∧w'.cell? ⟨w.heap.size+1,3,none⟩=some (.slice ax x.l.length cx)) (N:=fun j=>decide (j<5)) (by kernel_rfl) ?_;have hS0:w4.drew.cell? ⟨w3.heap.size,3,none⟩=some (.slice av v.l.length cv)∧w4.drew.cell? ⟨w.heap.size+1,0,none⟩=some (iv x.k)∧w4.drew.cell? ⟨w.heap.size+1,1,none⟩=some (iv x.n)∧w4.drew.cell? ⟨w.heap.size+1,2,none⟩=some (bz x.t)∧w4.drew.cell? ⟨w.heap.size+1,3,none⟩=some (.slice ax x.l.length cx):=⟨q3,e0,e1,e2,e3⟩
   refine Ab (some 18) [1,5,6,7] 0 (pt w3.heap.size 3) rfl rfl (by kernel_rfl) (fun _ _ _ h=>h) rfl (by intro w hS;(try dsimp only at hS);go_split_ands;go_simp) hS0 ?_
   try simp only[aP]
   refine Ab (some 19) [5,6,7] 1 (.slice av v.l.length cv) rfl rfl (by kernel_rfl) (fun _ _ _ h=>h) rfl (by intro w hS;(try dsimp only at hS);go_split_ands;go_simp) hS0 ?_
   try simp only[aP]
   refine Ab (some 20) [3,4,5,6,7] 2 (.agg #[iv x.k,iv x.n,bz x.t,.slice ax x.l.length cx]) rfl rfl (by kernel_rfl) (fun _ _ _ h=>h) rfl (by intro w hS;(try dsimp only at hS);go_split_ands;go_simp) hS0 ?_
   try simp only[aP]
   refine Ac (i:=3) (by kernel_rfl) rfl rfl (fun K hK=>?_);go_simp;refine hCx4.mono ?_;rintro e w6 ⟨⟨ay,cy,rfl,hx6,-⟩,hb6⟩;replace hb6:Below w4.heap.size w4 w6:=Ad hb6;replace hx6:IsW (From w4.heap.size) w6 x (.slice ay x.l.length cy):=hx6;have hs6:=hb6.size;have f6:=(Ag hb6).1;have k0:=(f6 _ 3 (by omega)).trans q3;have k1:=(f6 _ 0 (by omega)).trans e0;have k2:=(f6 _ 1 (by omega)).trans e1;have k3:=(f6 _ 2 (by omega)).trans e2;have k4:=(f6 _ 3 (by omega)).trans e3;refine hK _ _ (fun _=>⟨k0,k1,k2,k3,k4⟩) ?_;clear hK K
   try simp only[aP]
   clear hCx4;obtain⟨wa,hWa⟩:∃wa,w6.alloc (.cells #[iv x.k,iv x.n,bz x.t,.slice ay x.l.length cy] 31)=wa:=⟨_,rfl⟩;have hba:Below w6.heap.size w6 wa:=by rw[<-hWa];exact (Below.refl _ _).alloc (Nat.le_refl _) _
   have hblka:wa.heap[w6.heap.size]?=some (.cells #[iv x.k,iv x.n,bz x.t,.slice ay x.l.length cy] 31):=by rw[<-hWa];exact Ai _ _
   have ka:=(Ag hba).1;have hsa:wa.heap.size=w6.heap.size+1:=by rw[<-hWa];simp
   refine Ac (i:=4) (by kernel_rfl) rfl rfl (fun K hK=>?_);go_simp;refine hK _ _ (fun _=>⟨(ka _ _ (by omega)).trans k0,(ka _ _ (by omega)).trans k1,(ka _ _ (by omega)).trans k2,(ka _ _ (by omega)).trans k3,(ka _ _ (by omega)).trans k4⟩) ?_;clear hK K
   try simp only[aP]
   have hGa:=(hG4.below hb6).below hba;obtain⟨g7,c7,w7,hr7,hG7,hb7,hf7,hs7⟩:=hGa.push (l2:=[x]) (ad:=⟨w6.heap.size,0,none⟩) (by simp) (by simp) (World.news_of_block hblka) (An.one (At.2 ⟨_,rfl,(hx6.below hba).base (B':=fun k=>(w.heap.size+3<=k∧k≠w3.heap.size)∧(Value.slice av v.l.length cv).ownBlock≠some k) (fun k h1 _=>by have h2:w4.heap.size<=k:=h1;exact⟨⟨by omega,by omega⟩,hG4.apart h2⟩)⟩)) (by simp;omega) (fun k hk=>⟨by omega,by omega⟩) 1 22;replace hb7:Below (w.heap.size+3) wa w7:=hb7 _ (by omega) (fun k hk=>hk.1);have hn7:v.l.length + [x].length=v.l.length+1:=rfl;rw[hn7] at hr7 hG7;refine Ac (i:=5) (by kernel_rfl) rfl rfl (fun K hK=>?_);refine Ay _ _ 22 rfl _ _ rfl rfl _ _ hr7 ?_;refine hK _ _ (fun h=>by cases h) ?_;clear hK K
   try simp only[aP]
   have hbr7:w7.heap[w3.heap.size]?=some (.cells #[iv v.k,iv v.n,bz v.t,.slice av v.l.length cv] 31):=by
    rw[hf7 _ (by omega) hap,hba.block _ (by omega),hb6.block _ (by omega)];exact hblk4
   obtain⟨m0,m1,m2,m3,n0,n1,n2,n3⟩:=Aa hbr7;refine Ac (i:=6) (by kernel_rfl) rfl rfl (fun K hK=>?_);go_simp;refine hK _ _ (fun h=>by cases h) ?_;clear hK K
   try simp only[aP]
   refine Ac (i:=7) (by kernel_rfl) rfl rfl (fun K hK=>?_);go_simp;refine hK _ _ (fun h=>by cases h) ?_;clear hK K
   try simp only[aP]
   refine Am (by kernel_rfl) ?_;obtain⟨w8,hW8⟩:∃w8,w7.setCell ⟨w3.heap.size,3,none⟩ (sL g7 0 (v.l.length+1) c7)=w8:=⟨_,rfl⟩;have hblk8:w8.heap[w3.heap.size]?=some (.cells #[iv v.k,iv v.n,bz v.t,sL g7 0 (v.l.length+1) c7] 31):=by rw[<-hW8];exact E2 hbr7 _
   have hs8:w8.heap.size=w7.heap.size:=by rw[<-hW8];simp[World.setCell]
   have hG8:Gv (fun k=>w.heap.size+3<=k∧k≠w3.heap.size) w8 (sL g7 0 (v.l.length+1) c7) (v.l ++ [x]):=by
    rw[<-hW8];exact Gv.since hG7 ⟨by simp[World.setCell],fun k h1 _=>Below.heap_setCell _ _ _ _ h1.2⟩
   have hb28:Below w2.heap.size w2 w8:=by
    rw[<-hW8];exact ((hb24.trans ((hb6.trans (hba.mono hb6.size)).mono hb24.size)).trans (hb7.mono (by omega))).setCell (p:=⟨w3.heap.size,3,none⟩) (by show w2.heap.size<=w3.heap.size;omega) _
   obtain⟨j0,j1,j2,j3,-⟩:=Aa hblk8;have hlu:u.l.length=v.l.length+1:=by rw[huk.out.2.2.2];simp
   have hu8:IsW (fun k=>w.heap.size+3<=k∧k≠w3.heap.size) w8 u (sL g7 0 u.l.length c7):=by
    obtain⟨q1,q2,q3,q4⟩:=huk.out;refine⟨by rw[q3];exact hvr.1,by rw[q1];exact hvr.2.1,by rw[q2];exact hvr.2.2,?_⟩;rw[hlu,q4];exact hG8.vs
   have hL:=Dt hu8 huw;rw[huk.out.1,huk.out.2.1,huk.out.2.2.1,hlu,<-hfin.out] at hL;obtain⟨o,HO⟩:∃o,Hid (pushV v x=o):=⟨_,rfl⟩;rw[HO.out] at hL;rw[hW8];clear hG8 hG7 hGa hG4 hx6 hb6 hb7 hba hr7 k0 k1 k2 k3 k4 m0 m1 m2 m3 n0 n1 n2 n3 hW8 hu8 hfin huk hf7 ka f6;simp only[Exit.then];refine ‹∀(a:Act) (w:World),_->_› _ _ ?_;go_wp2_with fail;refine hL.mono ?_;rintro e w9 ⟨⟨a9,c9,rfl,h9⟩,hb9⟩;clear hL;have hb29:Below w2.heap.size w2 w9:=hb28.trans (hb9.mono hb28.size);obtain⟨r0,r1,r2,r3,s0,s1,s2,s3,hz⟩:=hr w9 hb29;have hres:=Br.kept h9 (hB2.trans (hb29.mono hB2.size)) (g:=w.heap.size+2) (by omega) (fun h=>by have:=h.1.1;omega) (fun k h=>by have:=h.1.1;omega);clear hr h9;go_wp2_with fail;exact bodyPost_ret (v:=.tuple #[.agg #[iv o.1.k,iv o.1.n,.string ⟨o.1.t.toArray⟩,.slice a9 o.1.l.length c9],iv o.2]) (by simp[results,Tryz.results111,go_sem,hz,r0,r1,r2,r3]) rfl (by rw[HO.out];exact hres)
 ·have hk':(v.k != 4)=true:=by simp[hk]
  have hfin:pushV v x=(V.zero,40):=by unfold pushV;rw[if_pos hk]
  obtain⟨r0,r1,r2,r3,s0,s1,s2,s3,hz⟩:=hr w2 (Below.refl _ _);have hres:=Bk (e:=40) (Aj hB2 (g:=w.heap.size+2) (by omega) (iv 0) (iv 0) (.string ⟨#[]⟩) sZ);rw[<-hfin] at hres;clear hr hc hv hx hk hfin;go_enter Tryz.func111,Tryz.ntmps111;go_wp2_with fail;exact bodyPost_ret (v:=.tuple #[.agg #[iv 0,iv 0,.string ⟨#[]⟩,sZ],iv 40]) (by simp[results,Tryz.results111,go_sem,hz,r0,r1,r2,r3]) rfl hres
theorem Rh{B:Nat->Prop}{v k x:V}{ao ak ax:Option Addr}{cap ck cx:Nat}{w:World}(hv:IsW B w v (.slice ao v.l.length cap))(hk:IsW B w k (.slice ak k.l.length ck))(hx:IsW B w x (.slice ax x.l.length cx))(hwv:wt v<=200000)(hwk:wt k<=200000)(hwx:wt x<=200000)(h:¬(v.k=4∧k.k=1))(h5:v.k≠5) :
  Calls Tryz.prog 112 #[.agg #[iv v.k,iv v.n,bz v.t,.slice ao v.l.length cap],.agg #[iv k.k,iv k.n,bz k.t,.slice ak k.l.length ck],.agg #[iv x.k,iv x.n,bz x.t,.slice ax x.l.length cx]] w fun r w'=>Br w (putV v k x) r w':=by
 obtain⟨ao',cap',e,c1,c2⟩:=hv.vs.slice;simp only[Value.slice.injEq] at e;obtain⟨rfl,-,rfl⟩:=e;have hwts:=Bw v;have hlv:=A4 v.l;obtain⟨w0,w1,w2,w3,hW,hW1,hW2,hW3,hs0,hs1,hs2,hs3,hB3,hc,hr⟩:=Ep w v (.slice ao v.l.length cap) k (.slice ak k.l.length ck) x (.slice ax x.l.length cx);obtain⟨⟨a0,a1,a2,a3⟩,⟨b0,b1,b2,b3⟩,⟨x0,x1,x2,x3⟩⟩:=hc w3 (Below.refl _ _);have hCv:=Az _ v _ B w3 (Nat.lt_succ_self _) (by omega) (hv.below hB3);have hCx:∀w4,Below w3.heap.size w3 w4->Calls Tryz.prog 17 #[.agg #[iv x.k,iv x.n,bz x.t,.slice ax x.l.length cx]] w4 fun r w'=>D7 w4 x r w':=fun w4 hb4=>Az _ x _ B w4 (Nat.lt_succ_self _) (by omega) ((hx.below hB3).below hb4)
 have hvr:Hid (v.t.length<=maxLen∧InR v.k∧InR v.n):=⟨hv.txt,hv.kr,hv.nr⟩;have hfin:Hid (putV v k x=(V.zero,40)):=by
  have hp:plV v k=(0,40):=by unfold plV;rw[if_neg h,if_neg h5]
  show _=_;unfold putV;rw[hp,if_neg (by decide),if_pos h5]
 have hk5:(v.k != 5)=true:=by simp[h5]
 clear hv hk hx;by_cases h4:v.k=4
 ·have hk4:(v.k == 4)=true:=by simp[h4]
  have hk1:(k.k == 1)=false:=by simp;intro e;exact h ⟨h4,e⟩
  clear h4 h h5;go_enter Tryz.func112,Tryz.ntmps112;go_wp2_with fail;refine hCv.mono ?_;rintro e wc ⟨⟨av,cv,rfl,-,hGc⟩,hbc⟩;clear hCv a0 a1 a2 a3 b0 b1 b2 b3 x0 x1 x2 x3;obtain⟨wz,w4,hWz,hW4,hbc4,hs4,hsz,hblk4,⟨y0,y1,y2,y3⟩,⟨z0,z1,z2,z3⟩⟩:=Cg wc (iv v.k) (iv v.n) (bz v.t) (.slice av v.l.length cv);have hsc:=hbc.size;have hb34:Below w3.heap.size w3 w4:=hbc.trans (hbc4.mono hsc);obtain⟨⟨a0,a1,a2,a3⟩,⟨b0,b1,b2,b3⟩,⟨x0,x1,x2,x3⟩⟩:=hc w4 hb34;obtain⟨q0,q1,q2,q3,p0,p1,p2,p3⟩:=Aa hblk4;clear hc hGc;obtain⟨r0,r1,r2,r3,s0,s1,s2,s3,hz⟩:=hr w4 (hb34);have hres:=Bk (e:=40) (Aj (hB3.trans ((hb34).mono hB3.size)) (g:=w.heap.size+3) (by omega) (iv 0) (iv 0) (.string ⟨#[]⟩) sZ);rw[<-hfin.out] at hres;clear hr;go_wp2_with fail;exact bodyPost_ret (v:=.tuple #[.agg #[iv 0,iv 0,.string ⟨#[]⟩,sZ],iv 40]) (by simp[results,Tryz.results112,go_sem,hz,r0,r1,r2,r3]) rfl hres
 ·have hk4:(v.k == 4)=false:=by simp[h4]
  clear h h5;go_enter Tryz.func112,Tryz.ntmps112;go_wp2_with fail;refine hCv.mono ?_;rintro e wc ⟨⟨av,cv,rfl,-,hGc⟩,hbc⟩;clear hCv a0 a1 a2 a3 b0 b1 b2 b3 x0 x1 x2 x3;obtain⟨wz,w4,hWz,hW4,hbc4,hs4,hsz,hblk4,⟨y0,y1,y2,y3⟩,⟨z0,z1,z2,z3⟩⟩:=Cg wc (iv v.k) (iv v.n) (bz v.t) (.slice av v.l.length cv);have hsc:=hbc.size;have hb34:Below w3.heap.size w3 w4:=hbc.trans (hbc4.mono hsc);obtain⟨⟨a0,a1,a2,a3⟩,⟨b0,b1,b2,b3⟩,⟨x0,x1,x2,x3⟩⟩:=hc w4 hb34;obtain⟨q0,q1,q2,q3,p0,p1,p2,p3⟩:=Aa hblk4;clear hc hGc;obtain⟨r0,r1,r2,r3,s0,s1,s2,s3,hz⟩:=hr w4 (hb34);have hres:=Bk (e:=40) (Aj (hB3.trans ((hb34).mono hB3.size)) (g:=w.heap.size+3) (by omega) (iv 0) (iv 0) (.string ⟨#[]⟩) sZ);rw[<-hfin.out] at hres;clear hr;go_wp2_with fail;exact bodyPost_ret (v:=.tuple #[.agg #[iv 0,iv 0,.string ⟨#[]⟩,sZ],iv 40]) (by simp[results,Tryz.results112,go_sem,hz,r0,r1,r2,r3]) rfl hres
theorem Ri{B:Nat->Prop}{v k x:V}{ao ak ax:Option Addr}{cap ck cx:Nat}{w:World}(hv:IsW B w v (.slice ao v.l.length cap))(hk:IsW B w k (.slice ak k.l.length ck))(hx:IsW B w x (.slice ax x.l.length cx))(hwv:wt v<=200000)(hwk:wt k<=200000)(hwx:wt x<=200000)(h4:v.k=4)(h1:k.k=1)(hn:¬(0<=k.n∧k.n<v.l.length)) :
  Calls Tryz.prog 112 #[.agg #[iv v.k,iv v.n,bz v.t,.slice ao v.l.length cap],.agg #[iv k.k,iv k.n,bz k.t,.slice ak k.l.length ck],.agg #[iv x.k,iv x.n,bz x.t,.slice ax x.l.length cx]] w fun r w'=>Br w (putV v k x) r w':=by
 obtain⟨ao',cap',e,c1,c2⟩:=hv.vs.slice;simp only[Value.slice.injEq] at e;obtain⟨rfl,-,rfl⟩:=e;have hwts:=Bw v;have hlv:=A4 v.l;obtain⟨w0,w1,w2,w3,hW,hW1,hW2,hW3,hs0,hs1,hs2,hs3,hB3,hc,hr⟩:=Ep w v (.slice ao v.l.length cap) k (.slice ak k.l.length ck) x (.slice ax x.l.length cx);obtain⟨⟨a0,a1,a2,a3⟩,⟨b0,b1,b2,b3⟩,⟨x0,x1,x2,x3⟩⟩:=hc w3 (Below.refl _ _);have hCv:=Az _ v _ B w3 (Nat.lt_succ_self _) (by omega) (hv.below hB3);have hCx:∀w4,Below w3.heap.size w3 w4->Calls Tryz.prog 17 #[.agg #[iv x.k,iv x.n,bz x.t,.slice ax x.l.length cx]] w4 fun r w'=>D7 w4 x r w':=fun w4 hb4=>Az _ x _ B w4 (Nat.lt_succ_self _) (by omega) ((hx.below hB3).below hb4)
 have hvr:Hid (v.t.length<=maxLen∧InR v.k∧InR v.n):=⟨hv.txt,hv.kr,hv.nr⟩;have hfin:Hid (putV v k x=(V.zero,52)):=by
  have hp:plV v k=(0,52):=by unfold plV;rw[if_pos ⟨h4,h1⟩,if_neg hn]
  show _=_;unfold putV;rw[hp,if_neg (by decide),if_pos (by omega)]
 have hk4:(v.k == 4)=true:=by simp[h4]
 have hk1:(k.k == 1)=true:=by simp[h1]
 clear hv hk hx h4 h1;by_cases n0:k.n<0
 ·have hd0:decide (k.n<0)=true:=by simp[n0]
  clear hn;go_enter Tryz.func112,Tryz.ntmps112;go_wp2_with fail;refine hCv.mono ?_;rintro e wc ⟨⟨av,cv,rfl,-,hGc⟩,hbc⟩;clear hCv a0 a1 a2 a3 b0 b1 b2 b3 x0 x1 x2 x3;obtain⟨wz,w4,hWz,hW4,hbc4,hs4,hsz,hblk4,⟨y0,y1,y2,y3⟩,⟨z0,z1,z2,z3⟩⟩:=Cg wc (iv v.k) (iv v.n) (bz v.t) (.slice av v.l.length cv);have hsc:=hbc.size;have hb34:Below w3.heap.size w3 w4:=hbc.trans (hbc4.mono hsc);obtain⟨⟨a0,a1,a2,a3⟩,⟨b0,b1,b2,b3⟩,⟨x0,x1,x2,x3⟩⟩:=hc w4 hb34;obtain⟨q0,q1,q2,q3,p0,p1,p2,p3⟩:=Aa hblk4;clear hc hGc;obtain⟨r0,r1,r2,r3,s0,s1,s2,s3,hz⟩:=hr w4 (hb34);have hres:=Bk (e:=52) (Aj (hB3.trans ((hb34).mono hB3.size)) (g:=w.heap.size+3) (by omega) (iv 0) (iv 0) (.string ⟨#[]⟩) sZ);rw[<-hfin.out] at hres;clear hr;go_wp2_with fail;exact bodyPost_ret (v:=.tuple #[.agg #[iv 0,iv 0,.string ⟨#[]⟩,sZ],iv 52]) (by simp[results,Tryz.results112,go_sem,hz,r0,r1,r2,r3]) rfl hres
 ·have hd0:decide (k.n<0)=false:=by simp;omega
  have hd1:(v.l.length:Int)<=k.n:=by omega
  have hd2:decide ((v.l.length:Int)<=k.n)=true:=by simp[hd1]
  clear hn;go_enter Tryz.func112,Tryz.ntmps112;go_wp2_with fail;refine hCv.mono ?_;rintro e wc ⟨⟨av,cv,rfl,-,hGc⟩,hbc⟩;clear hCv a0 a1 a2 a3 b0 b1 b2 b3 x0 x1 x2 x3;obtain⟨wz,w4,hWz,hW4,hbc4,hs4,hsz,hblk4,⟨y0,y1,y2,y3⟩,⟨z0,z1,z2,z3⟩⟩:=Cg wc (iv v.k) (iv v.n) (bz v.t) (.slice av v.l.length cv);have hsc:=hbc.size;have hb34:Below w3.heap.size w3 w4:=hbc.trans (hbc4.mono hsc);obtain⟨⟨a0,a1,a2,a3⟩,⟨b0,b1,b2,b3⟩,⟨x0,x1,x2,x3⟩⟩:=hc w4 hb34;obtain⟨q0,q1,q2,q3,p0,p1,p2,p3⟩:=Aa hblk4;clear hc hGc;obtain⟨r0,r1,r2,r3,s0,s1,s2,s3,hz⟩:=hr w4 (hb34);have hres:=Bk (e:=52) (Aj (hB3.trans ((hb34).mono hB3.size)) (g:=w.heap.size+3) (by omega) (iv 0) (iv 0) (.string ⟨#[]⟩) sZ);rw[<-hfin.out] at hres;clear hr;go_wp2_with fail;exact bodyPost_ret (v:=.tuple #[.agg #[iv 0,iv 0,.string ⟨#[]⟩,sZ],iv 52]) (by simp[results,Tryz.results112,go_sem,hz,r0,r1,r2,r3]) rfl hres
theorem Rj{B:Nat->Prop}{v k x:V}{ao ak ax:Option Addr}{cap ck cx:Nat}{w:World}(hv:IsW B w v (.slice ao v.l.length cap))(hk:IsW B w k (.slice ak k.l.length ck))(hx:IsW B w x (.slice ax x.l.length cx))(hwv:wt v<=200000)(hwk:wt k<=200000)(hwx:wt x<=200000)(h4:v.k=4)(h1:k.k=1)(hn:0<=k.n∧k.n<v.l.length) :
  Calls Tryz.prog 112 #[.agg #[iv v.k,iv v.n,bz v.t,.slice ao v.l.length cap],.agg #[iv k.k,iv k.n,bz k.t,.slice ak k.l.length ck],.agg #[iv x.k,iv x.n,bz x.t,.slice ax x.l.length cx]] w fun r w'=>Br w (putV v k x) r w':=by
 obtain⟨ao',cap',e,c1,c2⟩:=hv.vs.slice;simp only[Value.slice.injEq] at e;obtain⟨rfl,-,rfl⟩:=e;have hwts:=Bw v;have hlv:=A4 v.l;obtain⟨w0,w1,w2,w3,hW,hW1,hW2,hW3,hs0,hs1,hs2,hs3,hB3,hc,hr⟩:=Ep w v (.slice ao v.l.length cap) k (.slice ak k.l.length ck) x (.slice ax x.l.length cx);obtain⟨⟨a0,a1,a2,a3⟩,⟨b0,b1,b2,b3⟩,⟨x0,x1,x2,x3⟩⟩:=hc w3 (Below.refl _ _);have hCv:=Az _ v _ B w3 (Nat.lt_succ_self _) (by omega) (hv.below hB3);have hCx:∀w4,Below w3.heap.size w3 w4->Calls Tryz.prog 17 #[.agg #[iv x.k,iv x.n,bz x.t,.slice ax x.l.length cx]] w4 fun r w'=>D7 w4 x r w':=fun w4 hb4=>Az _ x _ B w4 (Nat.lt_succ_self _) (by omega) ((hx.below hB3).below hb4)
 have hvr:Hid (v.t.length<=maxLen∧InR v.k∧InR v.n):=⟨hv.txt,hv.kr,hv.nr⟩;obtain⟨i,hi⟩:∃i:Nat,Hid (k.n=(i:Int)):=⟨k.n.toNat,by show _=_;omega⟩;have hil:i<v.l.length:=by have:=hi.out;omega
 obtain⟨u,HU⟩:∃u:V,Hid (u=.mk v.k v.n v.t (spl v.l i (i+1) [x])):=⟨_,rfl⟩;have hfin:Hid (putV v k x=wgV u):=by
  have hp:plV v k=(i,0):=by unfold plV;rw[if_pos ⟨h4,h1⟩,if_pos hn,hi.out];simp
  show _=_;unfold putV;rw[hp,if_pos rfl,HU.out]
 have huw:wt u<=1000000:=by rw[HU.out,H4];have:=F4 v.l i (i+1) [x];simp only[wts] at this;omega
 have huk:Hid (u.k=v.k∧u.n=v.n∧u.t=v.t∧u.l=spl v.l i (i+1) [x]):=by rw[HU.out];exact⟨rfl,rfl,rfl,rfl⟩
 have hk4:(v.k == 4)=true:=by simp[h4]
 have hk1:(k.k == 1)=true:=by simp[h1]
 have hi0:(0:Int)<=(i:Int):=by omega
 have hi1:(i:Int)<(v.l.length:Int):=by omega
 have hi2:¬(i:Int)<0:=by omega
 have hi3:¬(v.l.length:Int)<=(i:Int):=by omega
 have hd0:decide ((i:Int)<0)=false:=by simp
 clear hv hk hx h4 h1 hn HU;go_enter Tryz.func112,Tryz.ntmps112;go_wp2_with fail;refine hCv.mono ?_;rintro e wc ⟨⟨av,cv,rfl,-,hGc⟩,hbc⟩;clear hCv a0 a1 a2 a3 b0 b1 b2 b3 x0 x1 x2 x3;obtain⟨wz,w4,hWz,hW4,hbc4,hs4,hsz,hblk4,⟨y0,y1,y2,y3⟩,⟨z0,z1,z2,z3⟩⟩:=Cg wc (iv v.k) (iv v.n) (bz v.t) (.slice av v.l.length cv);have hsc:=hbc.size;have hb34:Below w3.heap.size w3 w4:=hbc.trans (hbc4.mono hsc);obtain⟨⟨a0,a1,a2,a3⟩,⟨b0,b1,b2,b3⟩,⟨x0,x1,x2,x3⟩⟩:=hc w4 hb34;obtain⟨q0,q1,q2,q3,p0,p1,p2,p3⟩:=Aa hblk4;rw[hi.out] at b1;have hG4:Gv (fun k=>w.heap.size+4<=k∧k≠wc.heap.size) w4 (.slice av v.l.length cv) v.l:=(hGc.base (P':=fun k=>w.heap.size+4<=k∧k≠wc.heap.size) (fun k h1 h2=>⟨by have:w3.heap.size<=k:=h1;omega,by omega⟩)).below hbc4;have hCx4:=hCx w4.drew (hb34.trans ((Af w4 1).mono hb34.size));have hSk:∀ww,Below w4.heap.size w4 ww->ww.cell? ⟨wc.heap.size,3,none⟩=some (.slice av v.l.length cv)∧ww.cell? ⟨w.heap.size+1,1,none⟩=some (iv i)∧ww.cell? ⟨w.heap.size+2,0,none⟩=some (iv x.k)∧ww.cell? ⟨w.heap.size+2,1,none⟩=some (iv x.n)∧ww.cell? ⟨w.heap.size+2,2,none⟩=some (bz x.t)∧ww.cell? ⟨w.heap.size+2,3,none⟩=some (.slice ax x.l.length cx):=by
  intro ww hb;obtain⟨f,-⟩:=Ag hb;exact⟨(f _ _ (by omega)).trans q3,(f _ _ (by omega)).trans b1,(f _ _ (by omega)).trans x0,(f _ _ (by omega)).trans x1,(f _ _ (by omega)).trans x2,(f _ _ (by omega)).trans x3⟩
 have hb35:=hb34;have hblk5:=hblk4;clear hc hGc hCx;go_wp2_with fail;refine wpE_begin (S:=fun w'=>w'.cell? ⟨wc.heap.size,3,none⟩=some (.slice av v.l.length cv)∧w'.cell? ⟨w.heap.size+1,1,none⟩=some (iv i)∧w'.cell? ⟨w.heap.size+2,0,none⟩=some (iv x.k)∧w'.cell? ⟨w.heap.size+2,1,none⟩=some (iv x.n)∧w'.cell? ⟨w.heap.size+2,2,none⟩=some (bz x.t)∧w'.cell? ⟨w.heap.size+2,3,none⟩=some (.slice ax x.l.length cx)) (N:=fun j=>decide (j<7)) (by kernel_rfl) ?_;have hS0:w4.drew.cell? ⟨wc.heap.size,3,none⟩=some (.slice av v.l.length cv)∧w4.drew.cell? ⟨w.heap.size+1,1,none⟩=some (iv i)∧w4.drew.cell? ⟨w.heap.size+2,0,none⟩=some (iv x.k)∧w4.drew.cell? ⟨w.heap.size+2,1,none⟩=some (iv x.n)∧w4.drew.cell? ⟨w.heap.size+2,2,none⟩=some (bz x.t)∧w4.drew.cell? ⟨w.heap.size+2,3,none⟩=some (.slice ax x.l.length cx):=hSk _ (Below.refl _ _).drew;refine Ab (some 34) [1,6,7] 0 (pt wc.heap.size 3) rfl rfl (by kernel_rfl) (fun _ _ _ h=>h) rfl (by intro w hS;(try dsimp only at hS);go_split_ands;go_simp) hS0 ?_
 try simp only[aP]
 refine Ab (some 35) [6,7] 1 (.slice av v.l.length cv) rfl rfl (by kernel_rfl) (fun _ _ _ h=>h) rfl (by intro w hS;(try dsimp only at hS);go_split_ands;go_simp) hS0 ?_
 try simp only[aP]
 refine Ab (some 36) [3,6,7] 2 (pt (w.heap.size+1) 1) rfl rfl (by kernel_rfl) (fun _ _ _ h=>h) rfl (by intro w hS;(try dsimp only at hS);go_split_ands;go_simp) hS0 ?_
 try simp only[aP]
 refine Ab (some 37) [6,7] 3 (iv i) rfl rfl (by kernel_rfl) (fun _ _ _ h=>h) rfl (by intro w hS;(try dsimp only at hS);go_split_ands;go_simp) hS0 ?_
 try simp only[aP]
 refine Ab (some 38) [5,6,7] 4 (.agg #[iv x.k,iv x.n,bz x.t,.slice ax x.l.length cx]) rfl rfl (by kernel_rfl) (fun _ _ _ h=>h) rfl (by intro w hS;(try dsimp only at hS);go_split_ands;go_simp) hS0 ?_
 try simp only[aP]
 refine Ac (i:=5) (by kernel_rfl) rfl rfl (fun K hK=>?_);go_simp;refine hCx4.mono ?_;rintro e w6 ⟨⟨ay,cy,rfl,hx6,-⟩,hb6⟩;replace hb6:Below w4.heap.size w4 w6:=Ad hb6;replace hx6:IsW (From w4.heap.size) w6 x (.slice ay x.l.length cy):=hx6;have hs6:=hb6.size;clear hCx4;refine hK _ _ (fun _=>hSk _ hb6) ?_;clear hK K
 try simp only[aP]
 have hG6:=hG4.below hb6;obtain⟨g,i0,i1,i2,i3,rfl,hPg,hgl,j0,j1,j2,j3,l0,l1,l2,l3⟩:=hG4.cells (i:=i) (by omega);obtain⟨f6,ff6⟩:=Ag hb6;rw[<-f6 _ _ hgl] at j0 j1 j2 j3;rw[<-ff6 _ _ hgl] at l0 l1 l2 l3;refine Ac (i:=6) (by kernel_rfl) rfl rfl (fun K hK=>?_);go_simp;refine hK _ _ (fun _=>hSk _ hb6) ?_;clear hK K
 try simp only[aP]
 refine Ac (i:=7) (by kernel_rfl) rfl rfl (fun K hK=>?_);go_simp;refine hK _ _ (fun h=>by cases h) ?_;clear hK K
 try simp only[aP]
 refine Am (by kernel_rfl) ?_;have hset:=hG6.set (i:=i) (by omega) (At.2 ⟨_,rfl,hx6.base (B':=fun k=>(w.heap.size+4<=k∧k≠wc.heap.size)∧k≠g) (fun k h1 _=>by have h2:w4.heap.size<=k:=h1;exact⟨⟨by omega,by omega⟩,by omega⟩)⟩);obtain⟨w8,hW8⟩:∃w8,set4At w6 g (i*4) (iv x.k) (iv x.n) (bz x.t) (.slice ay x.l.length cy)=w8:=⟨_,rfl⟩;rw[hW8] at hset;have hblk8:w8.heap[wc.heap.size]?=some (.cells #[iv v.k,iv v.n,bz v.t,sL g 0 v.l.length cv] 31):=by
  rw[<-hW8,Bu (by have:=hPg.2;omega),hb6.block _ (by omega)];exact hblk5
 have hb38:Below w3.heap.size w3 w8:=by
  rw[<-hW8];exact Ct (hb35.trans (hb6.mono hb35.size)) (by have:=hPg.1;omega) _ _ _ _ _
 obtain⟨m0,m1,m2,m3,-⟩:=Aa hblk8;have hlu:u.l.length=v.l.length:=by rw[huk.out.2.2.2];simp[spl];omega
 have hu8:IsW (fun k=>w.heap.size+4<=k∧k≠wc.heap.size) w8 u (sL g 0 u.l.length cv):=by
  obtain⟨q1,q2,q3,q4⟩:=huk.out;refine⟨by rw[q3];exact hvr.out.1,by rw[q1];exact hvr.out.2.1,by rw[q2];exact hvr.out.2.2,?_⟩;rw[hlu,q4];exact hset.vs
 have hL:=Dt hu8 huw;rw[huk.out.1,huk.out.2.1,huk.out.2.2.1,hlu,<-hfin.out] at hL;obtain⟨o,HO⟩:∃o,Hid (putV v k x=o):=⟨_,rfl⟩;rw[HO.out] at hL;simp only[set4At] at hW8;rw[hW8];have hq1:¬Lob (fun k=>w.heap.size+4<=k∧k≠wc.heap.size) w8.heap.size (w.heap.size+3):=fun h=>by have:=h.1.1;omega
 have hq2:∀k,Lob (fun k=>w.heap.size+4<=k∧k≠wc.heap.size) w8.heap.size k->w.heap.size<=k:=fun k h=>by have:=h.1.1;omega
 clear hset hG6 hG4 hx6 hb6 hSk hS0 j0 j1 j2 j3 l0 l1 l2 l3 f6 ff6 hW8 hu8 hfin huk;simp only[Exit.then];refine ‹∀(a:Act) (w:World),_->_› _ _ ?_;go_wp2_with fail;refine hL.mono ?_;rintro e wl ⟨⟨al,cl,rfl,hl9⟩,hbl⟩;clear hL;have hb3l:Below w3.heap.size w3 wl:=hb38.trans (hbl.mono hb38.size);obtain⟨r0,r1,r2,r3,s0,s1,s2,s3,hz⟩:=hr wl hb3l;have hres:=Br.kept hl9 (hB3.trans (hb3l.mono hB3.size)) (g:=w.heap.size+3) (by omega) hq1 hq2;clear hr hl9;go_wp2_with fail;exact bodyPost_ret (v:=.tuple #[.agg #[iv o.1.k,iv o.1.n,.string ⟨o.1.t.toArray⟩,.slice al o.1.l.length cl],iv o.2]) (by simp[results,Tryz.results112,go_sem,hz,r0,r1,r2,r3]) rfl (by rw[HO.out];exact hres)
theorem Rk{B:Nat->Prop}{v k x:V}{ao ak ax:Option Addr}{cap ck cx:Nat}{w:World}(hv:IsW B w v (.slice ao v.l.length cap))(hk:IsW B w k (.slice ak k.l.length ck))(hx:IsW B w x (.slice ax x.l.length cx))(hwv:wt v<=200000)(hwk:wt k<=200000)(hwx:wt x<=200000)(ht:Et v)(h5:v.k=5)(hh:hit k v.l=false)(h64:64<=v.l.length / 2) :
  Calls Tryz.prog 112 #[.agg #[iv v.k,iv v.n,bz v.t,.slice ao v.l.length cap],.agg #[iv k.k,iv k.n,bz k.t,.slice ak k.l.length ck],.agg #[iv x.k,iv x.n,bz x.t,.slice ax x.l.length cx]] w fun r w'=>Br w (putV v k x) r w':=by
 obtain⟨ao',cap',e,c1,c2⟩:=hv.vs.slice;simp only[Value.slice.injEq] at e;obtain⟨rfl,-,rfl⟩:=e;have hwts:=Bw v;have hlv:=A4 v.l;obtain⟨w0,w1,w2,w3,hW,hW1,hW2,hW3,hs0,hs1,hs2,hs3,hB3,hc,hr⟩:=Ep w v (.slice ao v.l.length cap) k (.slice ak k.l.length ck) x (.slice ax x.l.length cx);obtain⟨⟨a0,a1,a2,a3⟩,⟨b0,b1,b2,b3⟩,⟨x0,x1,x2,x3⟩⟩:=hc w3 (Below.refl _ _);have hCv:=Az _ v _ B w3 (Nat.lt_succ_self _) (by omega) (hv.below hB3);have hCx:∀w4,Below w3.heap.size w3 w4->Calls Tryz.prog 17 #[.agg #[iv x.k,iv x.n,bz x.t,.slice ax x.l.length cx]] w4 fun r w'=>D7 w4 x r w':=fun w4 hb4=>Az _ x _ B w4 (Nat.lt_succ_self _) (by omega) ((hx.below hB3).below hb4)
 have hvr:Hid (v.t.length<=maxLen∧InR v.k∧InR v.n):=⟨hv.txt,hv.kr,hv.nr⟩;have hk4:(v.k == 4)=false:=by simp[h5]
 have hk5:(v.k != 5)=false:=by simp[h5]
 obtain⟨t1,t2⟩:=ht h5;have hP:∀w4,Below w3.heap.size w3 w4->Calls Tryz.prog 139 #[.agg #[iv v.k,iv v.n,bz v.t,.slice ao v.l.length cap],.agg #[iv k.k,iv k.n,bz k.t,.slice ak k.l.length ck]] w4 fun r w'=>r=.returned (iv (plI k v.l))∧Below w4.heap.size w4 w':=fun w4 hb4=>Er ((hv.below hB3).below hb4) ((hk.below hB3).below hb4) (by omega) t1 t2
 have hfin:Hid (putV v k x=(V.zero,53)):=by
  have hp:plV v k=(0,52):=by unfold plV;rw[if_neg (by omega),if_pos h5,hh];rfl
  show _=_;unfold putV;rw[hp,if_neg (by decide),if_neg (by omega),if_pos h64]
 have hI:plI k v.l=-1:=by unfold plI;rw[hh];rfl
 simp only[hI] at hP;have h128:(128:Int)<=(v.l.length:Int):=by omega
 clear hv hk hx h5 hh hI h64 ht;go_enter Tryz.func112,Tryz.ntmps112;go_wp2_with fail;refine hCv.mono ?_;rintro e wc ⟨⟨av,cv,rfl,-,hGc⟩,hbc⟩;clear hCv a0 a1 a2 a3 b0 b1 b2 b3 x0 x1 x2 x3;obtain⟨wz,w4,hWz,hW4,hbc4,hs4,hsz,hblk4,⟨y0,y1,y2,y3⟩,⟨z0,z1,z2,z3⟩⟩:=Cg wc (iv v.k) (iv v.n) (bz v.t) (.slice av v.l.length cv);have hsc:=hbc.size;have hb34:Below w3.heap.size w3 w4:=hbc.trans (hbc4.mono hsc);obtain⟨⟨a0,a1,a2,a3⟩,⟨b0,b1,b2,b3⟩,⟨x0,x1,x2,x3⟩⟩:=hc w4 hb34;obtain⟨q0,q1,q2,q3,p0,p1,p2,p3⟩:=Aa hblk4;have hP4:=hP w4 hb34;clear hP;go_wp2_with fail;refine hP4.mono ?_;rintro e w5 ⟨rfl,hb45⟩;clear hP4 y0 y1 y2 y3 z0 z1 z2 z3 q0 q1 q2 q3 p0 p1 p2 p3 a0 a1 a2 a3 b0 b1 b2 b3 x0 x1 x2 x3 hW4 hWz;have hs45:=hb45.size;have hb35:Below w3.heap.size w3 w5:=hb34.trans (hb45.mono hb34.size);have hblk5:w5.heap[wc.heap.size]?=some (.cells #[iv v.k,iv v.n,bz v.t,.slice av v.l.length cv] 31):=(hb45.block _ (by omega)).trans hblk4;obtain⟨⟨a0,a1,a2,a3⟩,⟨b0,b1,b2,b3⟩,⟨x0,x1,x2,x3⟩⟩:=hc w5 hb35;obtain⟨q0,q1,q2,q3,p0,p1,p2,p3⟩:=Aa hblk5;clear hc hGc;obtain⟨r0,r1,r2,r3,s0,s1,s2,s3,hz⟩:=hr w5 (hb35);have hres:=Bk (e:=53) (Aj (hB3.trans ((hb35).mono hB3.size)) (g:=w.heap.size+3) (by omega) (iv 0) (iv 0) (.string ⟨#[]⟩) sZ);rw[<-hfin.out] at hres;clear hr;go_wp2_with fail;exact bodyPost_ret (v:=.tuple #[.agg #[iv 0,iv 0,.string ⟨#[]⟩,sZ],iv 53]) (by simp[results,Tryz.results112,go_sem,hz,r0,r1,r2,r3]) rfl hres
theorem Uu{B:Nat->Prop}{v k x:V}{ao ak ax:Option Addr}{cap ck cx:Nat}{w:World}(hv:IsW B w v (.slice ao v.l.length cap))(hk:IsW B w k (.slice ak k.l.length ck))(hx:IsW B w x (.slice ax x.l.length cx))(hwv:wt v<=200000)(hwk:wt k<=200000)(hwx:wt x<=200000)(ht:Et v)(h5:v.k=5)(hh:hit k v.l=true) :
  Calls Tryz.prog 112 #[.agg #[iv v.k,iv v.n,bz v.t,.slice ao v.l.length cap],.agg #[iv k.k,iv k.n,bz k.t,.slice ak k.l.length ck],.agg #[iv x.k,iv x.n,bz x.t,.slice ax x.l.length cx]] w fun r w'=>Br w (putV v k x) r w':=by
 obtain⟨ao',cap',e,c1,c2⟩:=hv.vs.slice;simp only[Value.slice.injEq] at e;obtain⟨rfl,-,rfl⟩:=e;have hwts:=Bw v;have hlv:=A4 v.l;obtain⟨w0,w1,w2,w3,hW,hW1,hW2,hW3,hs0,hs1,hs2,hs3,hB3,hc,hr⟩:=Ep w v (.slice ao v.l.length cap) k (.slice ak k.l.length ck) x (.slice ax x.l.length cx);obtain⟨⟨a0,a1,a2,a3⟩,⟨b0,b1,b2,b3⟩,⟨x0,x1,x2,x3⟩⟩:=hc w3 (Below.refl _ _);have hCv:=Az _ v _ B w3 (Nat.lt_succ_self _) (by omega) (hv.below hB3);have hCx:∀w4,Below w3.heap.size w3 w4->Calls Tryz.prog 17 #[.agg #[iv x.k,iv x.n,bz x.t,.slice ax x.l.length cx]] w4 fun r w'=>D7 w4 x r w':=fun w4 hb4=>Az _ x _ B w4 (Nat.lt_succ_self _) (by omega) ((hx.below hB3).below hb4)
 have hvr:Hid (v.t.length<=maxLen∧InR v.k∧InR v.n):=⟨hv.txt,hv.kr,hv.nr⟩;have hk4:(v.k == 4)=false:=by simp[h5]
 have hk5:(v.k != 5)=false:=by simp[h5]
 obtain⟨t1,t2⟩:=ht h5;have hP:∀w4,Below w3.heap.size w3 w4->Calls Tryz.prog 139 #[.agg #[iv v.k,iv v.n,bz v.t,.slice ao v.l.length cap],.agg #[iv k.k,iv k.n,bz k.t,.slice ak k.l.length ck]] w4 fun r w'=>r=.returned (iv (plI k v.l))∧Below w4.heap.size w4 w':=fun w4 hb4=>Er ((hv.below hB3).below hb4) ((hk.below hB3).below hb4) (by omega) t1 t2
 have hlt:=(List.getElem?_eq_some_iff.1 (Da hh)).1;obtain⟨i,hi⟩:∃i:Nat,2*kat k v.l=i:=⟨_,rfl⟩;have hI:plI k v.l=(i:Int):=by unfold plI;rw[hh,<-hi];rfl
 simp only[hI] at hP;rw[hi] at hlt;obtain⟨j,Hj⟩:∃j:Nat,Hid (i+1=j):=⟨_,rfl⟩;have hjl:j<v.l.length:=by have:=Hj.out;omega
 obtain⟨u,HU⟩:∃u:V,Hid (u=.mk v.k v.n v.t (spl v.l j (j+1) [x])):=⟨_,rfl⟩;have hfin:Hid (putV v k x=wgV u):=by
  have hp:plV v k=(j,0):=by unfold plV;rw[if_neg (by omega),if_pos h5,hh,hi,Hj.out];rfl
  show _=_;unfold putV;rw[hp,if_pos rfl,HU.out]
 have huw:wt u<=1000000:=by rw[HU.out,H4];have:=F4 v.l j (j+1) [x];simp only[wts] at this;omega
 have huk:Hid (u.k=v.k∧u.n=v.n∧u.t=v.t∧u.l=spl v.l j (j+1) [x]):=by rw[HU.out];exact⟨rfl,rfl,rfl,rfl⟩
 have hi0:(0:Int)<=(i:Int):=by omega
 have hj0:(0:Int)<=(j:Int):=by omega
 have hj1:(j:Int)<(v.l.length:Int):=by omega
 have hw1:IntKind.i64.wrap ((i:Int)+1)=(j:Int):=by have:=Hj.out;rw[IntKind.wrap_i64];omega
 have hw2:(i:Int)+1=(j:Int):=by have:=Hj.out;omega
 have hw3:IntKind.i64.wrap (j:Int)=(j:Int):=by rw[IntKind.wrap_i64];omega
 clear hv hk hx h5 HU hi hI hh ht;go_enter Tryz.func112,Tryz.ntmps112;go_wp2_with fail;refine hCv.mono ?_;rintro e wc ⟨⟨av,cv,rfl,-,hGc⟩,hbc⟩;clear hCv a0 a1 a2 a3 b0 b1 b2 b3 x0 x1 x2 x3;obtain⟨wz,w4,hWz,hW4,hbc4,hs4,hsz,hblk4,⟨y0,y1,y2,y3⟩,⟨z0,z1,z2,z3⟩⟩:=Cg wc (iv v.k) (iv v.n) (bz v.t) (.slice av v.l.length cv);have hsc:=hbc.size;have hb34:Below w3.heap.size w3 w4:=hbc.trans (hbc4.mono hsc);obtain⟨⟨a0,a1,a2,a3⟩,⟨b0,b1,b2,b3⟩,⟨x0,x1,x2,x3⟩⟩:=hc w4 hb34;obtain⟨q0,q1,q2,q3,p0,p1,p2,p3⟩:=Aa hblk4;have hP4:=hP w4 hb34;clear hP;go_wp2_with fail;refine hP4.mono ?_;rintro e w5 ⟨rfl,hb45⟩;clear hP4 y0 y1 y2 y3 z0 z1 z2 z3 q0 q1 q2 q3 p0 p1 p2 p3 a0 a1 a2 a3 b0 b1 b2 b3 x0 x1 x2 x3 hW4 hWz;have hs45:=hb45.size;have hb35:Below w3.heap.size w3 w5:=hb34.trans (hb45.mono hb34.size);have hblk5:w5.heap[wc.heap.size]?=some (.cells #[iv v.k,iv v.n,bz v.t,.slice av v.l.length cv] 31):=(hb45.block _ (by omega)).trans hblk4;obtain⟨⟨a0,a1,a2,a3⟩,⟨b0,b1,b2,b3⟩,⟨x0,x1,x2,x3⟩⟩:=hc w5 hb35;obtain⟨q0,q1,q2,q3,p0,p1,p2,p3⟩:=Aa hblk5;have hG4:Gv (fun k=>w.heap.size+4<=k∧k≠wc.heap.size) w5 (.slice av v.l.length cv) v.l:=((hGc.base (P':=fun k=>w.heap.size+4<=k∧k≠wc.heap.size) (fun k h1 h2=>⟨by have:w3.heap.size<=k:=h1;omega,by omega⟩)).below hbc4).below hb45;have hCx4:=hCx w5.drew (hb35.trans ((Af w5 1).mono hb35.size));have hSk:∀ww,Below w5.heap.size w5 ww->ww.cell? ⟨wc.heap.size,3,none⟩=some (.slice av v.l.length cv)∧ww.cell? ⟨w.heap.size+2,0,none⟩=some (iv x.k)∧ww.cell? ⟨w.heap.size+2,1,none⟩=some (iv x.n)∧ww.cell? ⟨w.heap.size+2,2,none⟩=some (bz x.t)∧ww.cell? ⟨w.heap.size+2,3,none⟩=some (.slice ax x.l.length cx):=by
  intro ww hb;obtain⟨f,-⟩:=Ag hb;exact⟨(f _ _ (by omega)).trans q3,(f _ _ (by omega)).trans x0,(f _ _ (by omega)).trans x1,(f _ _ (by omega)).trans x2,(f _ _ (by omega)).trans x3⟩
 clear hc hGc hCx;go_wp2_with fail;refine wpE_begin (S:=fun w'=>w'.cell? ⟨wc.heap.size,3,none⟩=some (.slice av v.l.length cv)∧w'.cell? ⟨w.heap.size+2,0,none⟩=some (iv x.k)∧w'.cell? ⟨w.heap.size+2,1,none⟩=some (iv x.n)∧w'.cell? ⟨w.heap.size+2,2,none⟩=some (bz x.t)∧w'.cell? ⟨w.heap.size+2,3,none⟩=some (.slice ax x.l.length cx)) (N:=fun j=>decide (j<7)) (by kernel_rfl) ?_;have hS0:w5.drew.cell? ⟨wc.heap.size,3,none⟩=some (.slice av v.l.length cv)∧w5.drew.cell? ⟨w.heap.size+2,0,none⟩=some (iv x.k)∧w5.drew.cell? ⟨w.heap.size+2,1,none⟩=some (iv x.n)∧w5.drew.cell? ⟨w.heap.size+2,2,none⟩=some (bz x.t)∧w5.drew.cell? ⟨w.heap.size+2,3,none⟩=some (.slice ax x.l.length cx):=hSk _ (Below.refl _ _).drew;refine Ab (some 54) [1,6,7] 0 (pt wc.heap.size 3) rfl rfl (by kernel_rfl) (fun _ _ _ h=>h) rfl (by intro w hS;(try dsimp only at hS);go_split_ands;go_simp) hS0 ?_
 try simp only[aP]
 refine Ab (some 55) [6,7] 1 (.slice av v.l.length cv) rfl rfl (by kernel_rfl) (fun _ _ _ h=>h) rfl (by intro w hS;(try dsimp only at hS);go_split_ands;go_simp) hS0 ?_
 try simp only[aP]
 refine Ab (some 56) [3,6,7] 2 (iv i) rfl rfl (by kernel_rfl) (fun _ _ _ h=>h) rfl (by intro w hS;(try dsimp only at hS);go_split_ands;go_simp) hS0 ?_
 try simp only[aP]
 refine Ab (some 57) [6,7] 3 (iv j) rfl rfl (by kernel_rfl) (fun _ _ _ h=>h) rfl (by intro w hS;(try dsimp only at hS);go_split_ands;go_simp) hS0 ?_
 try simp only[aP]
 refine Ab (some 58) [5,6,7] 4 (.agg #[iv x.k,iv x.n,bz x.t,.slice ax x.l.length cx]) rfl rfl (by kernel_rfl) (fun _ _ _ h=>h) rfl (by intro w hS;(try dsimp only at hS);go_split_ands;go_simp) hS0 ?_
 try simp only[aP]
 refine Ac (i:=5) (by kernel_rfl) rfl rfl (fun K hK=>?_);go_simp;refine hCx4.mono ?_;rintro e w6 ⟨⟨ay,cy,rfl,hx6,-⟩,hb6⟩;replace hb6:Below w5.heap.size w5 w6:=Ad hb6;replace hx6:IsW (From w5.heap.size) w6 x (.slice ay x.l.length cy):=hx6;have hs6:=hb6.size;clear hCx4;refine hK _ _ (fun _=>hSk _ hb6) ?_;clear hK K
 try simp only[aP]
 have hG6:=hG4.below hb6;obtain⟨g,i0,i1,i2,i3,rfl,hPg,hgl,j0,j1,j2,j3,l0,l1,l2,l3⟩:=hG4.cells (i:=j) (by omega);obtain⟨f6,ff6⟩:=Ag hb6;rw[<-f6 _ _ hgl] at j0 j1 j2 j3;rw[<-ff6 _ _ hgl] at l0 l1 l2 l3;refine Ac (i:=6) (by kernel_rfl) rfl rfl (fun K hK=>?_);go_simp;refine hK _ _ (fun _=>hSk _ hb6) ?_;clear hK K
 try simp only[aP]
 refine Ac (i:=7) (by kernel_rfl) rfl rfl (fun K hK=>?_);go_simp;refine hK _ _ (fun h=>by cases h) ?_;clear hK K
 try simp only[aP]
 refine Am (by kernel_rfl) ?_;have hset:=hG6.set (i:=j) (by omega) (At.2 ⟨_,rfl,hx6.base (B':=fun k=>(w.heap.size+4<=k∧k≠wc.heap.size)∧k≠g) (fun k h1 _=>by have h2:w5.heap.size<=k:=h1;exact⟨⟨by omega,by omega⟩,by omega⟩)⟩);obtain⟨w8,hW8⟩:∃w8,set4At w6 g (j*4) (iv x.k) (iv x.n) (bz x.t) (.slice ay x.l.length cy)=w8:=⟨_,rfl⟩;rw[hW8] at hset;have hblk8:w8.heap[wc.heap.size]?=some (.cells #[iv v.k,iv v.n,bz v.t,sL g 0 v.l.length cv] 31):=by
  rw[<-hW8,Bu (by have:=hPg.2;omega),hb6.block _ (by omega)];exact hblk5
 have hb38:Below w3.heap.size w3 w8:=by
  rw[<-hW8];exact Ct (hb35.trans (hb6.mono hb35.size)) (by have:=hPg.1;omega) _ _ _ _ _
 obtain⟨m0,m1,m2,m3,-⟩:=Aa hblk8;have hlu:u.l.length=v.l.length:=by rw[huk.out.2.2.2];simp[spl];omega
 have hu8:IsW (fun k=>w.heap.size+4<=k∧k≠wc.heap.size) w8 u (sL g 0 u.l.length cv):=by
  obtain⟨q1,q2,q3,q4⟩:=huk.out;refine⟨by rw[q3];exact hvr.out.1,by rw[q1];exact hvr.out.2.1,by rw[q2];exact hvr.out.2.2,?_⟩;rw[hlu,q4];exact hset.vs
 have hL:=Dt hu8 huw;rw[huk.out.1,huk.out.2.1,huk.out.2.2.1,hlu,<-hfin.out] at hL;obtain⟨o,HO⟩:∃o,Hid (putV v k x=o):=⟨_,rfl⟩;rw[HO.out] at hL;simp only[set4At] at hW8;rw[hW8];have hq1:¬Lob (fun k=>w.heap.size+4<=k∧k≠wc.heap.size) w8.heap.size (w.heap.size+3):=fun h=>by have:=h.1.1;omega
 have hq2:∀k,Lob (fun k=>w.heap.size+4<=k∧k≠wc.heap.size) w8.heap.size k->w.heap.size<=k:=fun k h=>by have:=h.1.1;omega
 clear hset hG6 hG4 hx6 hb6 hSk hS0 j0 j1 j2 j3 l0 l1 l2 l3 f6 ff6 hW8 hu8 hfin huk;simp only[Exit.then];refine ‹∀(a:Act) (w:World),_->_› _ _ ?_;go_wp2_with fail;refine hL.mono ?_;rintro e wl ⟨⟨al,cl,rfl,hl9⟩,hbl⟩;clear hL;have hb3l:Below w3.heap.size w3 wl:=hb38.trans (hbl.mono hb38.size);obtain⟨r0,r1,r2,r3,s0,s1,s2,s3,hz⟩:=hr wl hb3l;have hres:=Br.kept hl9 (hB3.trans (hb3l.mono hB3.size)) (g:=w.heap.size+3) (by omega) hq1 hq2;clear hr hl9;go_wp2_with fail;exact bodyPost_ret (v:=.tuple #[.agg #[iv o.1.k,iv o.1.n,.string ⟨o.1.t.toArray⟩,.slice al o.1.l.length cl],iv o.2]) (by simp[results,Tryz.results112,go_sem,hz,r0,r1,r2,r3]) rfl (by rw[HO.out];exact hres)
end
end Go.Proofs.YtnijcolomoobnaaGreatDoor
