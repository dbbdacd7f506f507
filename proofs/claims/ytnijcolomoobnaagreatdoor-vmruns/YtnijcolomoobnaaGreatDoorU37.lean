/- Texts of ours, joined. -/
import Derived.Test.YtnijcolomoobnaaGreatDoorU35
set_option linter.unusedVariables false
set_option linter.unusedSimpArgs false
set_option maxRecDepth 100000
set_option maxHeartbeats 16000000
namespace Go.Proofs.YtnijcolomoobnaaGreatDoor
section
open Go.RowKit
attribute [local go_sem ↓] Go.wp_at_zero Go.wp_at_succ
section
variable {e:En} {P:Nat->Prop} {ks:Value} {loc stk sts s:List V} {fl:Int} {q:Nat} {dn:Bool} {x y z u:V} {xs:Value} {w w' w2:World} {q':Int}
theorem LS.three(h:LS e P ks loc (s ++ [y,z,u]) sts fl q false V.zero sZ w):∃g ck w1 ay cy az cz au cu,ks=sL g 0 (s.length+3) ck∧w.setCell ⟨e.b,2,none⟩ (sL g 0 s.length ck)=w1 ∧
  Calls Tryz.prog 80 #[pt e.b 0,iv 3] w (fun r w'=>r=.returned (sL g (s.length*4) 3 (ck - s.length))∧w'=w1)∧LS e P (sL g 0 s.length ck) loc s sts fl q false V.zero sZ w1∧Fx e w w1∧g<w1.heap.size ∧
  w1.cell? ⟨g,s.length*4,none⟩=some (iv y.k)∧w1.cell? ⟨g,s.length*4+1,none⟩=some (iv y.n)∧w1.cell? ⟨g,s.length*4+2,none⟩=some (bz y.t)∧w1.cell? ⟨g,s.length*4+3,none⟩=some (.slice ay y.l.length cy) ∧
  w1.cell? ⟨g,s.length*4+4,none⟩=some (iv z.k)∧w1.cell? ⟨g,s.length*4+5,none⟩=some (iv z.n)∧w1.cell? ⟨g,s.length*4+6,none⟩=some (bz z.t)∧w1.cell? ⟨g,s.length*4+7,none⟩=some (.slice az z.l.length cz) ∧
  w1.cell? ⟨g,s.length*4+8,none⟩=some (iv u.k)∧w1.cell? ⟨g,s.length*4+9,none⟩=some (iv u.n)∧w1.cell? ⟨g,s.length*4+10,none⟩=some (bz u.t)∧w1.cell? ⟨g,s.length*4+11,none⟩=some (.slice au u.l.length cu) ∧
  IsW P w1 y (.slice ay y.l.length cy)∧IsW P w1 z (.slice az z.l.length cz)∧IsW P w1 u (.slice au u.l.length cu):=by
 obtain⟨ak,ck,hks,hck,hcm⟩:=h.sk.slice;have hlen:(s ++ [y,z,u]).length=s.length+3:=by simp
 rw[hlen] at hks hck;subst hks;obtain⟨g,ay,cy,e1,hg,-,c0,c1,c2,c3,-,-,-,-,hwy⟩:=h.sk.get (i:=s.length) (x:=y) (by simp);subst e1;obtain⟨g',az,cz,e1,-,-,d0,d1,d2,d3,-,-,-,-,hwz⟩:=h.sk.get (i:=s.length+1) (x:=z) (by simp[List.getElem?_append]);simp only[Option.some.injEq,Addr.mk.injEq] at e1;obtain⟨rfl,-⟩:=e1;obtain⟨g',au,cu,e1,-,-,k0,k1,k2,k3,-,-,-,-,hwu⟩:=h.sk.get (i:=s.length+2) (x:=u) (by simp[List.getElem?_append]);simp only[Option.some.injEq,Addr.mk.injEq] at e1;obtain⟨rfl,-⟩:=e1;have hf1:Fr (fun k=>k≠e.b) w (w.setCell ⟨e.b,2,none⟩ (sL g 0 s.length ck)):=Fr.set (by simp) _ _;have hgb:g≠e.b:=(h.lk g rfl).2.1;have hcell:∀j,(w.setCell ⟨e.b,2,none⟩ (sL g 0 s.length ck)).cell? ⟨g,j,none⟩=w.cell? ⟨g,j,none⟩:=fun j=>World.cell?_of_block (hf1.block g hgb hg)
 have hW:∀{v:V} {sv:Value},IsW (fun k=>(P k∨(sL g 0 (s.length+3) ck).ownBlock=some k)∧(sL g 0 (s.length+3) ck).ownBlock≠some k) w v sv->IsW P (w.setCell ⟨e.b,2,none⟩ (sL g 0 s.length ck)) v sv:=fun {v sv} hv=>(hv.base (B':=P) (fun k hk _=>by rcases hk.1 with h | h;exact h;exact absurd h hk.2)).since ⟨hf1.size,fun k hk hl=>hf1.block k (fun e1=>h.nb (e1 ▸ hk)) hl⟩
 have hL:=h.cut (j:=s.length) (by simp) hf1 (h.fr.setK _);rw[List.take_left' rfl] at hL;have hC:=Eb (d:=3) (j:=s.length) h.fr hck hcm rfl;rw[Ec (by omega)] at hC;have at4:∀{j:Nat} {v:Value},w.cell? ⟨g,(s.length+1)*4+j,none⟩=some v->w.cell? ⟨g,s.length*4+(4+j),none⟩=some v:=fun {j v} hh=>by rw[show s.length*4+(4+j)=(s.length+1)*4+j by omega];exact hh
 have at8:∀{j:Nat} {v:Value},w.cell? ⟨g,(s.length+2)*4+j,none⟩=some v->w.cell? ⟨g,s.length*4+(8+j),none⟩=some v:=fun {j v} hh=>by rw[show s.length*4+(8+j)=(s.length+2)*4+j by omega];exact hh
 exact⟨g,ck,_,ay,cy,az,cz,au,cu,rfl,rfl,hC,hL,h.fxb hf1,Nat.lt_of_lt_of_le hg hf1.size,(hcell _).trans c0,(hcell _).trans c1,(hcell _).trans c2,(hcell _).trans c3,(hcell _).trans (at4 (j:=0) d0),(hcell _).trans (at4 (j:=1) d1),(hcell _).trans (at4 (j:=2) d2),(hcell _).trans (at4 (j:=3) d3),(hcell _).trans (at8 (j:=0) k0),(hcell _).trans (at8 (j:=1) k1),(hcell _).trans (at8 (j:=2) k2),(hcell _).trans (at8 (j:=3) k3),hW hwy,hW hwz,hW hwu⟩
theorem Xr(a:Int)(h:LS e P ks loc (s ++ [y,z,u]) sts fl q false V.zero sZ w)(sy:Snd y)(sz:Snd z)(su:Snd u)(hn:s.length+1<=900000):Calls Tryz.prog 62 #[pt e.b 0,iv a] w (StP e w (opR (putV y z u) q loc s sts fl)):=by
 obtain⟨g,ck,w1,ay,cy,az,cz,au,cu,rfl,hW1,hC,h1,hfx,hg,c0,c1,c2,c3,d0,d1,d2,d3,k0,k1,k2,k3,hy,hz,hu⟩:=h.three;have hO:∀wx,Below w1.heap.size w1 wx->Calls Tryz.prog 98 #[.agg #[iv y.k,iv y.n,bz y.t,.slice ay y.l.length cy],.agg #[iv z.k,iv z.n,bz z.t,.slice az z.l.length cz],.agg #[iv u.k,iv u.n,bz u.t,.slice au u.l.length cu]] wx fun r w'=>Br wx (putV y z u) r w':=fun wx hb=>V6 (hy.below hb) (hz.below hb) (hu.below hb) (by have:=sy.1;omega) (by have:=sz.1;omega) (by have:=su.1;omega) sy.tidy
 obtain⟨O,hOO⟩:∃O:V × Int,putV y z u=O:=⟨_,rfl⟩;rw[hOO] at hO ⊢;have HM:=fun (w3:World) (ao:Option Addr) (cap:Nat)=>LS.made (o:=O) (w3:=w3) (ao:=ao) (cap:=cap) (w2:=w) h1
 replace HM:Hid _:=HM;have HX:Hid (Fx e w w1):=hfx;clear h sy sz su hy hz hu hOO hfx h1 hW1;go_enter Tryz.func62,Tryz.ntmps62;go_wp2_with fail;refine hC.mono ?_;rintro r w2 ⟨rfl,hw2⟩;subst hw2;clear hC;go_wp2_with fail;have hSk:∀wx,Below w2.heap.size w2 wx->wx.cell? ⟨g,s.length*4,none⟩=some (iv y.k)∧wx.cell? ⟨g,s.length*4+1,none⟩=some (iv y.n)∧wx.cell? ⟨g,s.length*4+2,none⟩=some (bz y.t)∧wx.cell? ⟨g,s.length*4+3,none⟩=some (.slice ay y.l.length cy)∧wx.cell? ⟨g,s.length*4+4,none⟩=some (iv z.k)∧wx.cell? ⟨g,s.length*4+5,none⟩=some (iv z.n)∧wx.cell? ⟨g,s.length*4+6,none⟩=some (bz z.t)∧wx.cell? ⟨g,s.length*4+7,none⟩=some (.slice az z.l.length cz)∧wx.cell? ⟨g,s.length*4+8,none⟩=some (iv u.k)∧wx.cell? ⟨g,s.length*4+9,none⟩=some (iv u.n)∧wx.cell? ⟨g,s.length*4+10,none⟩=some (bz u.t)∧wx.cell? ⟨g,s.length*4+11,none⟩=some (.slice au u.l.length cu):=fun wx hb=>by obtain⟨fx,-⟩:=Ag hb;exact⟨(fx _ _ hg).trans c0,(fx _ _ hg).trans c1,(fx _ _ hg).trans c2,(fx _ _ hg).trans c3,(fx _ _ hg).trans d0,(fx _ _ hg).trans d1,(fx _ _ hg).trans d2,(fx _ _ hg).trans d3,(fx _ _ hg).trans k0,(fx _ _ hg).trans k1,(fx _ _ hg).trans k2,(fx _ _ hg).trans k3⟩
 clear c0 c1 c2 c3 d0 d1 d2 d3 k0 k1 k2 k3;refine wpE_begin (S:=fun w'=>w'.cell? ⟨g,s.length*4,none⟩=some (iv y.k)∧w'.cell? ⟨g,s.length*4+1,none⟩=some (iv y.n)∧w'.cell? ⟨g,s.length*4+2,none⟩=some (bz y.t)∧w'.cell? ⟨g,s.length*4+3,none⟩=some (.slice ay y.l.length cy)∧w'.cell? ⟨g,s.length*4+4,none⟩=some (iv z.k)∧w'.cell? ⟨g,s.length*4+5,none⟩=some (iv z.n)∧w'.cell? ⟨g,s.length*4+6,none⟩=some (bz z.t)∧w'.cell? ⟨g,s.length*4+7,none⟩=some (.slice az z.l.length cz)∧w'.cell? ⟨g,s.length*4+8,none⟩=some (iv u.k)∧w'.cell? ⟨g,s.length*4+9,none⟩=some (iv u.n)∧w'.cell? ⟨g,s.length*4+10,none⟩=some (bz u.t)∧w'.cell? ⟨g,s.length*4+11,none⟩=some (.slice au u.l.length cu)) (N:=fun j=>decide (j<14)) (by kernel_rfl) ?_;have hS0:w2.drew.cell? ⟨g,s.length*4,none⟩=some (iv y.k)∧w2.drew.cell? ⟨g,s.length*4+1,none⟩=some (iv y.n)∧w2.drew.cell? ⟨g,s.length*4+2,none⟩=some (bz y.t)∧w2.drew.cell? ⟨g,s.length*4+3,none⟩=some (.slice ay y.l.length cy)∧w2.drew.cell? ⟨g,s.length*4+4,none⟩=some (iv z.k)∧w2.drew.cell? ⟨g,s.length*4+5,none⟩=some (iv z.n)∧w2.drew.cell? ⟨g,s.length*4+6,none⟩=some (bz z.t)∧w2.drew.cell? ⟨g,s.length*4+7,none⟩=some (.slice az z.l.length cz)∧w2.drew.cell? ⟨g,s.length*4+8,none⟩=some (iv u.k)∧w2.drew.cell? ⟨g,s.length*4+9,none⟩=some (iv u.n)∧w2.drew.cell? ⟨g,s.length*4+10,none⟩=some (bz u.t)∧w2.drew.cell? ⟨g,s.length*4+11,none⟩=some (.slice au u.l.length cu):=hSk _ (Af w2 1);refine Ab (some 7) [14] 0 (pt e.b 0) rfl rfl (by kernel_rfl) (fun _ _ _ h=>h) rfl (by intro w hS;(try dsimp only at hS);go_split_ands;go_simp) hS0 ?_
 try simp only[aP]
 refine Ab (some 8) [2,3,10,11,12,13,14] 1 (sL g (s.length*4) 3 (ck - s.length)) rfl rfl (by kernel_rfl) (fun _ _ _ h=>h) rfl (by intro w hS;(try dsimp only at hS);go_split_ands;go_simp) hS0 ?_
 try simp only[aP]
 refine Ab (some 9) [3,10,11,12,13,14] 2 (pt g (s.length*4)) rfl rfl (by kernel_rfl) (fun _ _ _ h=>h) rfl (by intro w hS;(try dsimp only at hS);go_split_ands;go_simp) hS0 ?_
 try simp only[aP]
 refine Ab (some 10) [10,11,12,13,14] 3 (.agg #[iv y.k,iv y.n,bz y.t,.slice ay y.l.length cy]) rfl rfl (by kernel_rfl) (fun _ _ _ h=>h) rfl (by intro w hS;(try dsimp only at hS);go_split_ands;go_simp) hS0 ?_
 try simp only[aP]
 refine Ab (some 11) [5,6,10,11,12,13,14] 4 (sL g (s.length*4) 3 (ck - s.length)) rfl rfl (by kernel_rfl) (fun _ _ _ h=>h) rfl (by intro w hS;(try dsimp only at hS);go_split_ands;go_simp) hS0 ?_
 try simp only[aP]
 refine Ab (some 12) [6,10,11,12,13,14] 5 (pt g (s.length*4+4)) rfl rfl (by kernel_rfl) (fun _ _ _ h=>h) rfl (by intro w hS;(try dsimp only at hS);go_split_ands;go_simp) hS0 ?_
 try simp only[aP]
 refine Ab (some 13) [10,11,12,13,14] 6 (.agg #[iv z.k,iv z.n,bz z.t,.slice az z.l.length cz]) rfl rfl (by kernel_rfl) (fun _ _ _ h=>h) rfl (by intro w hS;(try dsimp only at hS);go_split_ands;go_simp) hS0 ?_
 try simp only[aP]
 refine Ab (some 14) [8,9,10,11,12,13,14] 7 (sL g (s.length*4) 3 (ck - s.length)) rfl rfl (by kernel_rfl) (fun _ _ _ h=>h) rfl (by intro w hS;(try dsimp only at hS);go_split_ands;go_simp) hS0 ?_
 try simp only[aP]
 refine Ab (some 15) [9,10,11,12,13,14] 8 (pt g (s.length*4+8)) rfl rfl (by kernel_rfl) (fun _ _ _ h=>h) rfl (by intro w hS;(try dsimp only at hS);go_split_ands;go_simp) hS0 ?_
 try simp only[aP]
 refine Ab (some 16) [10,11,12,13,14] 9 (.agg #[iv u.k,iv u.n,bz u.t,.slice au u.l.length cu]) rfl rfl (by kernel_rfl) (fun _ _ _ h=>h) rfl (by intro w hS;(try dsimp only at hS);go_split_ands;go_simp) hS0 ?_
 try simp only[aP]
 refine Ac (i:=10) (by kernel_rfl) rfl rfl (fun K hK=>?_);go_simp;refine (hO _ (Af w2 1)).mono ?_;rintro r w3 ⟨⟨ao,cap,rfl,hx3⟩,hb3⟩;replace hb3:Below w2.heap.size w2 w3:=Ad hb3;replace hx3:IsW (From w2.heap.size) w3 O.1 (.slice ao O.1.l.length cap):=hx3;clear hO;have hS3:=hSk w3 hb3;refine hK _ _ (fun _=>hS3) ?_;clear hK K
 try simp only[aP]
 refine Ab (some 18) [13,14] 11 (.agg #[iv O.1.k,iv O.1.n,.string ⟨O.1.t.toArray⟩,.slice ao O.1.l.length cap]) rfl rfl (by kernel_rfl) (fun _ _ _ h=>h) rfl (by intro w hS;(try dsimp only at hS);go_split_ands;go_simp) hS3 ?_
 try simp only[aP]
 refine Ab (some 19) [13,14] 12 (iv O.2) rfl rfl (by kernel_rfl) (fun _ _ _ h=>h) rfl (by intro w hS;(try dsimp only at hS);go_split_ands;go_simp) hS3 ?_
 try simp only[aP]
 by_cases h0:O.2=0
 ·have HP:=(HM.out w3 ao cap hx3 hb3 HX.out hn).1 h0;replace HP:Hid _:=HP;rw[h0];clear HM h0;refine Ac (i:=13) (by kernel_rfl) rfl rfl (fun K hK=>?_);go_simp;refine (F8 w3 O.1 ao _ cap).mono ?_;rintro r w4 ⟨rfl,hb4⟩;refine hK _ _ (fun _=>hSk w4 (hb3.trans (hb4.mono hb3.size))) ?_;clear hK K
  try simp only[aP]
  refine Ac (i:=14) (by kernel_rfl) rfl rfl (fun K hK=>?_);go_simp;refine (HP.out w4 hb4).mono ?_;rintro r w5 ⟨rfl,hp⟩;refine hK _ _ (fun h=>by cases h) ?_;clear hK K
  try simp only[aP]
  refine Am (by kernel_rfl) ?_;exact bodyPost_end (results_none rfl _ _ _) rfl hp
 ·have HP:=(HM.out w3 ao cap hx3 hb3 HX.out hn).2 h0;replace HP:Hid _:=HP;clear HM;refine Ac (i:=13) (by kernel_rfl) rfl rfl (fun K hK=>?_);go_simp;refine (F9 w3 O.1 ao _ cap h0).mono ?_;rintro r w4 ⟨rfl,hb4⟩;exact⟨rfl,HP.out w4 hb4⟩
theorem Xs{y z:V}(h:y.k=5):decide ((atV y z).2=0)=hit z y.l:=by
 have hp:plV y z=if hit z y.l=true then (2*kat z y.l+1,0) else (0,52):=by
  unfold plV;rw[if_neg (fun h4=>by have:=h4.1;omega),if_pos h]
 unfold atV;rw[hp];cases hit z y.l <;> simp
theorem Xt(a:Int)(h:LS e P ks loc (s ++ [y,z]) sts fl q false V.zero sZ w)(sy:Snd y)(hn:s.length+1<=900000):Calls Tryz.prog 58 #[pt e.b 0,iv a] w (StP e w (opR (bV' (decide ((atV y z).2=0)),if y.k=5 then 0 else 40) q loc s sts fl)):=by
 obtain⟨g,ck,w1,ay,cy,az,cz,rfl,hW1,hC,h1,hfx,hg,c0,c1,c2,c3,d0,d1,d2,d3,hy,hz⟩:=h.two;have hO:∀wx,Below w1.heap.size w1 wx->Calls Tryz.prog 93 #[.agg #[iv y.k,iv y.n,bz y.t,.slice ay y.l.length cy],.agg #[iv z.k,iv z.n,bz z.t,.slice az z.l.length cz]] wx fun r w'=>r=.returned (.tuple #[.bool (decide (y.k=5) && hit z y.l),iv (if y.k=5 then 0 else 40)])∧Below wx.heap.size wx w':=fun wx hb=>V0 (hy.below hb) (hz.below hb) (by have:=Bw y;have:=A4 y.l;have:=sy.1;omega) sy.tidy
 have HX:Hid (Fx e w w1):=hfx;by_cases h5:y.k=5
 ·rw[Xs h5,if_pos h5];rw[if_pos h5,decide_eq_true h5,Bool.true_and] at hO;have HM:=fun (w3:World)=>LS.made (o:=(bV' (hit z y.l),0)) (w3:=w3) (ao:=none) (cap:=0) (w2:=w) h1 (Iy _)
  replace HM:Hid _:=HM;clear h sy hy hz hfx h1 hW1 h5;generalize hit z y.l=hb at *;go_enter Tryz.func58,Tryz.ntmps58;go_wp2_with fail;refine hC.mono ?_;rintro r w2 ⟨rfl,hw2⟩;subst hw2;clear hC;go_wp2_with fail;have hSk:∀wx,Below w2.heap.size w2 wx->wx.cell? ⟨g,s.length*4,none⟩=some (iv y.k)∧wx.cell? ⟨g,s.length*4+1,none⟩=some (iv y.n)∧wx.cell? ⟨g,s.length*4+2,none⟩=some (bz y.t)∧wx.cell? ⟨g,s.length*4+3,none⟩=some (.slice ay y.l.length cy)∧wx.cell? ⟨g,s.length*4+4,none⟩=some (iv z.k)∧wx.cell? ⟨g,s.length*4+5,none⟩=some (iv z.n)∧wx.cell? ⟨g,s.length*4+6,none⟩=some (bz z.t)∧wx.cell? ⟨g,s.length*4+7,none⟩=some (.slice az z.l.length cz):=fun wx hb=>by obtain⟨fx,-⟩:=Ag hb;exact⟨(fx _ _ hg).trans c0,(fx _ _ hg).trans c1,(fx _ _ hg).trans c2,(fx _ _ hg).trans c3,(fx _ _ hg).trans d0,(fx _ _ hg).trans d1,(fx _ _ hg).trans d2,(fx _ _ hg).trans d3⟩
  clear c0 c1 c2 c3 d0 d1 d2 d3;refine wpE_begin (S:=fun w'=>w'.cell? ⟨g,s.length*4,none⟩=some (iv y.k)∧w'.cell? ⟨g,s.length*4+1,none⟩=some (iv y.n)∧w'.cell? ⟨g,s.length*4+2,none⟩=some (bz y.t)∧w'.cell? ⟨g,s.length*4+3,none⟩=some (.slice ay y.l.length cy)∧w'.cell? ⟨g,s.length*4+4,none⟩=some (iv z.k)∧w'.cell? ⟨g,s.length*4+5,none⟩=some (iv z.n)∧w'.cell? ⟨g,s.length*4+6,none⟩=some (bz z.t)∧w'.cell? ⟨g,s.length*4+7,none⟩=some (.slice az z.l.length cz)) (N:=fun j=>decide (j<12)) (by kernel_rfl) ?_;have hS0:w2.drew.cell? ⟨g,s.length*4,none⟩=some (iv y.k)∧w2.drew.cell? ⟨g,s.length*4+1,none⟩=some (iv y.n)∧w2.drew.cell? ⟨g,s.length*4+2,none⟩=some (bz y.t)∧w2.drew.cell? ⟨g,s.length*4+3,none⟩=some (.slice ay y.l.length cy)∧w2.drew.cell? ⟨g,s.length*4+4,none⟩=some (iv z.k)∧w2.drew.cell? ⟨g,s.length*4+5,none⟩=some (iv z.n)∧w2.drew.cell? ⟨g,s.length*4+6,none⟩=some (bz z.t)∧w2.drew.cell? ⟨g,s.length*4+7,none⟩=some (.slice az z.l.length cz):=hSk _ (Af w2 1);refine Ab (some 7) [12] 0 (pt e.b 0) rfl rfl (by kernel_rfl) (fun _ _ _ h=>h) rfl (by intro w hS;(try dsimp only at hS);go_split_ands;go_simp) hS0 ?_
  try simp only[aP]
  refine Ab (some 8) [2,3,7,8,9,10,11,12] 1 (sL g (s.length*4) 2 (ck - s.length)) rfl rfl (by kernel_rfl) (fun _ _ _ h=>h) rfl (by intro w hS;(try dsimp only at hS);go_split_ands;go_simp) hS0 ?_
  try simp only[aP]
  refine Ab (some 9) [3,7,8,9,10,11,12] 2 (pt g (s.length*4)) rfl rfl (by kernel_rfl) (fun _ _ _ h=>h) rfl (by intro w hS;(try dsimp only at hS);go_split_ands;go_simp) hS0 ?_
  try simp only[aP]
  refine Ab (some 10) [7,8,9,10,11,12] 3 (.agg #[iv y.k,iv y.n,bz y.t,.slice ay y.l.length cy]) rfl rfl (by kernel_rfl) (fun _ _ _ h=>h) rfl (by intro w hS;(try dsimp only at hS);go_split_ands;go_simp) hS0 ?_
  try simp only[aP]
  refine Ab (some 11) [5,6,7,8,9,10,11,12] 4 (sL g (s.length*4) 2 (ck - s.length)) rfl rfl (by kernel_rfl) (fun _ _ _ h=>h) rfl (by intro w hS;(try dsimp only at hS);go_split_ands;go_simp) hS0 ?_
  try simp only[aP]
  refine Ab (some 12) [6,7,8,9,10,11,12] 5 (pt g (s.length*4+4)) rfl rfl (by kernel_rfl) (fun _ _ _ h=>h) rfl (by intro w hS;(try dsimp only at hS);go_split_ands;go_simp) hS0 ?_
  try simp only[aP]
  refine Ab (some 13) [7,8,9,10,11,12] 6 (.agg #[iv z.k,iv z.n,bz z.t,.slice az z.l.length cz]) rfl rfl (by kernel_rfl) (fun _ _ _ h=>h) rfl (by intro w hS;(try dsimp only at hS);go_split_ands;go_simp) hS0 ?_
  try simp only[aP]
  refine Ac (i:=7) (by kernel_rfl) rfl rfl (fun K hK=>?_);go_simp;refine (hO _ (Af w2 1)).mono ?_;rintro r w3 ⟨rfl,hb3⟩;replace hb3:Below w2.heap.size w2 w3:=Ad hb3;clear hO;have hS3:=hSk w3 hb3;refine hK _ _ (fun _=>hS3) ?_;clear hK K
  try simp only[aP]
  refine Ab (some 15) [10,11,12] 8 (.bool hb) rfl rfl (by kernel_rfl) (fun _ _ _ h=>h) rfl (by intro w hS;(try dsimp only at hS);go_split_ands;go_simp) hS3 ?_
  try simp only[aP]
  refine Ab (some 16) [10,11,12] 9 (iv 0) rfl rfl (by kernel_rfl) (fun _ _ _ h=>h) rfl (by intro w hS;(try dsimp only at hS);go_split_ands;go_simp) hS3 ?_
  try simp only[aP]
  refine Ac (i:=10) (by kernel_rfl) rfl rfl (fun K hK=>?_);go_simp;refine (Tm w3 hb).mono ?_;rintro r w4 ⟨rfl,hb4⟩;have hb14:=hb3.trans (hb4.mono hb3.size);refine hK _ _ (fun _=>hSk w4 hb14) ?_;clear hK K
  try simp only[aP]
  refine Ac (i:=11) (by kernel_rfl) rfl rfl (fun K hK=>?_);go_simp;refine (Ew hb w4).mono ?_;rintro r w5 ⟨rfl,hb5⟩;have hb15:=hb14.trans (hb5.mono hb14.size);have hP:=(HM.out w5 hb15 HX.out hn).1 (by simp) w5 (Below.refl _ _);simp only[V.k,V.n,V.t,V.l,List.length_nil] at hP;clear HM;refine hK _ _ (fun _=>hSk w5 hb15) ?_;clear hK K
  try simp only[aP]
  refine Ac (i:=12) (by kernel_rfl) rfl rfl (fun K hK=>?_);go_simp;refine hP.mono ?_;rintro r w6 ⟨rfl,hp⟩;refine hK _ _ (fun h=>by cases h) ?_;clear hK K
  try simp only[aP]
  refine Am (by kernel_rfl) ?_;exact bodyPost_end (results_none rfl _ _ _) rfl hp
 ·rw[if_neg h5];rw[if_neg h5,decide_eq_false h5,Bool.false_and] at hO;have HM:=fun (w3:World)=>(LS.made (o:=(bV' (decide ((atV y z).2=0)),40)) (w3:=w3) (ao:=none) (cap:=0) (w2:=w) h1 (Iy _))
  replace HM:Hid _:=HM;clear h sy hy hz hfx h1 hW1 h5;go_enter Tryz.func58,Tryz.ntmps58;go_wp2_with fail;refine hC.mono ?_;rintro r w2 ⟨rfl,hw2⟩;subst hw2;clear hC;go_wp2_with fail;have hSk:∀wx,Below w2.heap.size w2 wx->wx.cell? ⟨g,s.length*4,none⟩=some (iv y.k)∧wx.cell? ⟨g,s.length*4+1,none⟩=some (iv y.n)∧wx.cell? ⟨g,s.length*4+2,none⟩=some (bz y.t)∧wx.cell? ⟨g,s.length*4+3,none⟩=some (.slice ay y.l.length cy)∧wx.cell? ⟨g,s.length*4+4,none⟩=some (iv z.k)∧wx.cell? ⟨g,s.length*4+5,none⟩=some (iv z.n)∧wx.cell? ⟨g,s.length*4+6,none⟩=some (bz z.t)∧wx.cell? ⟨g,s.length*4+7,none⟩=some (.slice az z.l.length cz):=fun wx hb=>by obtain⟨fx,-⟩:=Ag hb;exact⟨(fx _ _ hg).trans c0,(fx _ _ hg).trans c1,(fx _ _ hg).trans c2,(fx _ _ hg).trans c3,(fx _ _ hg).trans d0,(fx _ _ hg).trans d1,(fx _ _ hg).trans d2,(fx _ _ hg).trans d3⟩
  clear c0 c1 c2 c3 d0 d1 d2 d3;refine wpE_begin (S:=fun w'=>w'.cell? ⟨g,s.length*4,none⟩=some (iv y.k)∧w'.cell? ⟨g,s.length*4+1,none⟩=some (iv y.n)∧w'.cell? ⟨g,s.length*4+2,none⟩=some (bz y.t)∧w'.cell? ⟨g,s.length*4+3,none⟩=some (.slice ay y.l.length cy)∧w'.cell? ⟨g,s.length*4+4,none⟩=some (iv z.k)∧w'.cell? ⟨g,s.length*4+5,none⟩=some (iv z.n)∧w'.cell? ⟨g,s.length*4+6,none⟩=some (bz z.t)∧w'.cell? ⟨g,s.length*4+7,none⟩=some (.slice az z.l.length cz)) (N:=fun j=>decide (j<12)) (by kernel_rfl) ?_;have hS0:w2.drew.cell? ⟨g,s.length*4,none⟩=some (iv y.k)∧w2.drew.cell? ⟨g,s.length*4+1,none⟩=some (iv y.n)∧w2.drew.cell? ⟨g,s.length*4+2,none⟩=some (bz y.t)∧w2.drew.cell? ⟨g,s.length*4+3,none⟩=some (.slice ay y.l.length cy)∧w2.drew.cell? ⟨g,s.length*4+4,none⟩=some (iv z.k)∧w2.drew.cell? ⟨g,s.length*4+5,none⟩=some (iv z.n)∧w2.drew.cell? ⟨g,s.length*4+6,none⟩=some (bz z.t)∧w2.drew.cell? ⟨g,s.length*4+7,none⟩=some (.slice az z.l.length cz):=hSk _ (Af w2 1);refine Ab (some 7) [12] 0 (pt e.b 0) rfl rfl (by kernel_rfl) (fun _ _ _ h=>h) rfl (by intro w hS;(try dsimp only at hS);go_split_ands;go_simp) hS0 ?_
  try simp only[aP]
  refine Ab (some 8) [2,3,7,8,9,10,11,12] 1 (sL g (s.length*4) 2 (ck - s.length)) rfl rfl (by kernel_rfl) (fun _ _ _ h=>h) rfl (by intro w hS;(try dsimp only at hS);go_split_ands;go_simp) hS0 ?_
  try simp only[aP]
  refine Ab (some 9) [3,7,8,9,10,11,12] 2 (pt g (s.length*4)) rfl rfl (by kernel_rfl) (fun _ _ _ h=>h) rfl (by intro w hS;(try dsimp only at hS);go_split_ands;go_simp) hS0 ?_
  try simp only[aP]
  refine Ab (some 10) [7,8,9,10,11,12] 3 (.agg #[iv y.k,iv y.n,bz y.t,.slice ay y.l.length cy]) rfl rfl (by kernel_rfl) (fun _ _ _ h=>h) rfl (by intro w hS;(try dsimp only at hS);go_split_ands;go_simp) hS0 ?_
  try simp only[aP]
  refine Ab (some 11) [5,6,7,8,9,10,11,12] 4 (sL g (s.length*4) 2 (ck - s.length)) rfl rfl (by kernel_rfl) (fun _ _ _ h=>h) rfl (by intro w hS;(try dsimp only at hS);go_split_ands;go_simp) hS0 ?_
  try simp only[aP]
  refine Ab (some 12) [6,7,8,9,10,11,12] 5 (pt g (s.length*4+4)) rfl rfl (by kernel_rfl) (fun _ _ _ h=>h) rfl (by intro w hS;(try dsimp only at hS);go_split_ands;go_simp) hS0 ?_
  try simp only[aP]
  refine Ab (some 13) [7,8,9,10,11,12] 6 (.agg #[iv z.k,iv z.n,bz z.t,.slice az z.l.length cz]) rfl rfl (by kernel_rfl) (fun _ _ _ h=>h) rfl (by intro w hS;(try dsimp only at hS);go_split_ands;go_simp) hS0 ?_
  try simp only[aP]
  refine Ac (i:=7) (by kernel_rfl) rfl rfl (fun K hK=>?_);go_simp;refine (hO _ (Af w2 1)).mono ?_;rintro r w3 ⟨rfl,hb3⟩;replace hb3:Below w2.heap.size w2 w3:=Ad hb3;clear hO;have hS3:=hSk w3 hb3;refine hK _ _ (fun _=>hS3) ?_;clear hK K
  try simp only[aP]
  refine Ab (some 15) [10,11,12] 8 (.bool false) rfl rfl (by kernel_rfl) (fun _ _ _ h=>h) rfl (by intro w hS;(try dsimp only at hS);go_split_ands;go_simp) hS3 ?_
  try simp only[aP]
  refine Ab (some 16) [10,11,12] 9 (iv 40) rfl rfl (by kernel_rfl) (fun _ _ _ h=>h) rfl (by intro w hS;(try dsimp only at hS);go_split_ands;go_simp) hS3 ?_
  try simp only[aP]
  refine Ac (i:=10) (by kernel_rfl) rfl rfl (fun K hK=>?_);go_simp;refine (Tn w3 false (e:=40) (by simp)).mono ?_;rintro r w4 ⟨rfl,hb4⟩;exact⟨rfl,(HM.out w3 hb3 HX.out hn).2 (by simp) w4 hb4⟩
end
end
end Go.Proofs.YtnijcolomoobnaaGreatDoor
