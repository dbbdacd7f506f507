/- Texts of ours, joined. -/
import Derived.Test.YtnijcolomoobnaaGreatDoorU33
set_option linter.unusedVariables false
set_option linter.unusedSimpArgs false
set_option maxRecDepth 100000
set_option maxHeartbeats 16000000
namespace Go.Proofs.YtnijcolomoobnaaGreatDoor
section
open Go.RowKit
attribute [local go_sem ↓] Go.wp_at_zero Go.wp_at_succ
def opR(o:V × Int)(q:Nat)(loc s sts:List V)(fl:Int):Rs:=if o.2≠0 then .trap o.2 fl else .go q loc (s ++ [o.1]) sts fl
section
variable {e:En} {P:Nat->Prop} {ks:Value} {loc stk sts s:List V} {fl:Int} {q:Nat} {dn:Bool} {x y z u:V} {xs:Value} {w w' w2:World} {q':Int}
theorem LS.two(h:LS e P ks loc (s ++ [y,z]) sts fl q false V.zero sZ w):∃g ck w1 ay cy az cz,ks=sL g 0 (s.length+2) ck∧w.setCell ⟨e.b,2,none⟩ (sL g 0 s.length ck)=w1 ∧
  Calls Tryz.prog 80 #[pt e.b 0,iv 2] w (fun r w'=>r=.returned (sL g (s.length*4) 2 (ck - s.length))∧w'=w1)∧LS e P (sL g 0 s.length ck) loc s sts fl q false V.zero sZ w1∧Fx e w w1∧g<w1.heap.size ∧
  w1.cell? ⟨g,s.length*4,none⟩=some (iv y.k)∧w1.cell? ⟨g,s.length*4+1,none⟩=some (iv y.n)∧w1.cell? ⟨g,s.length*4+2,none⟩=some (bz y.t)∧w1.cell? ⟨g,s.length*4+3,none⟩=some (.slice ay y.l.length cy) ∧
  w1.cell? ⟨g,s.length*4+4,none⟩=some (iv z.k)∧w1.cell? ⟨g,s.length*4+5,none⟩=some (iv z.n)∧w1.cell? ⟨g,s.length*4+6,none⟩=some (bz z.t)∧w1.cell? ⟨g,s.length*4+7,none⟩=some (.slice az z.l.length cz) ∧
  IsW P w1 y (.slice ay y.l.length cy)∧IsW P w1 z (.slice az z.l.length cz):=by
 obtain⟨ak,ck,hks,hck,hcm⟩:=h.sk.slice;have hlen:(s ++ [y,z]).length=s.length+2:=by simp
 rw[hlen] at hks hck;subst hks;obtain⟨g,ay,cy,e1,hg,-,c0,c1,c2,c3,-,-,-,-,hwy⟩:=h.sk.get (i:=s.length) (x:=y) (by simp);subst e1;obtain⟨g',az,cz,e1,-,-,d0,d1,d2,d3,-,-,-,-,hwz⟩:=h.sk.get (i:=s.length+1) (x:=z) (by simp[List.getElem?_append]);simp only[Option.some.injEq,Addr.mk.injEq] at e1;obtain⟨rfl,-⟩:=e1;have hf1:Fr (fun k=>k≠e.b) w (w.setCell ⟨e.b,2,none⟩ (sL g 0 s.length ck)):=Fr.set (by simp) _ _;have hgb:g≠e.b:=(h.lk g rfl).2.1;have hcell:∀j,(w.setCell ⟨e.b,2,none⟩ (sL g 0 s.length ck)).cell? ⟨g,j,none⟩=w.cell? ⟨g,j,none⟩:=fun j=>World.cell?_of_block (hf1.block g hgb hg)
 have hW:∀{v:V} {sv:Value},IsW (fun k=>(P k∨(sL g 0 (s.length+2) ck).ownBlock=some k)∧(sL g 0 (s.length+2) ck).ownBlock≠some k) w v sv->IsW P (w.setCell ⟨e.b,2,none⟩ (sL g 0 s.length ck)) v sv:=fun {v sv} hv=>(hv.base (B':=P) (fun k hk _=>by rcases hk.1 with h | h;exact h;exact absurd h hk.2)).since ⟨hf1.size,fun k hk hl=>hf1.block k (fun e1=>h.nb (e1 ▸ hk)) hl⟩
 have hL:=h.cut (j:=s.length) (by simp) hf1 (h.fr.setK _);rw[List.take_left' rfl] at hL;have hC:=Eb (d:=2) (j:=s.length) h.fr hck hcm rfl;rw[Ec (by omega)] at hC;exact⟨g,ck,_,ay,cy,az,cz,rfl,rfl,hC,hL,h.fxb hf1,Nat.lt_of_lt_of_le hg hf1.size,(hcell _).trans c0,(hcell _).trans c1,(hcell _).trans c2,(hcell _).trans c3,(hcell _).trans (by rw[show s.length*4+4=(s.length+1)*4 by omega];exact d0),(hcell _).trans (by rw[show s.length*4+5=(s.length+1)*4+1 by omega];exact d1),(hcell _).trans (by rw[show s.length*4+6=(s.length+1)*4+2 by omega];exact d2),(hcell _).trans (by rw[show s.length*4+7=(s.length+1)*4+3 by omega];exact d3),hW hwy,hW hwz⟩
theorem LS.made{o:V × Int}{w3:World}{ao:Option Addr}{cap:Nat}(h:LS e P ks loc s sts fl q false V.zero sZ w)(hx:IsW (From w.heap.size) w3 o.1 (.slice ao o.1.l.length cap))(hb:Below w.heap.size w w3)(hw:Fx e w2 w)(hn:s.length+1<=900000) :
  (o.2=0->∀w4,Below w3.heap.size w3 w4->Calls Tryz.prog 40 #[pt e.b 0,.agg #[iv o.1.k,iv o.1.n,.string ⟨o.1.t.toArray⟩,.slice ao o.1.l.length cap]] w4 (fun r w'=>r=.returned (.tuple #[])∧StP e w2 (opR o q loc s sts fl) r w'))∧(o.2≠0->∀w4,Below w3.heap.size w3 w4->StP e w2 (opR o q loc s sts fl) (.panicked (Ca o.2)) w4):=by
 constructor
 ·intro h0 w4 hb4;have hB:Below w.heap.size w w4:=hb.trans (hb4.mono hb.size);have h4:=h.keep hB;refine (Ed h4 ((hx.below hb4).base (fun k hk _=>h.hi k hk)) hn).mono ?_;intro r w' hp;have:=StP.push h4 (hw.trans (Fr.of_below hB)) hp;unfold opR;rw[if_neg (by simp[h0])];exact⟨hp.1,this⟩
 ·intro h0 w4 hb4;have hB:Below w.heap.size w w4:=hb.trans (hb4.mono hb.size);unfold opR;rw[if_pos h0];exact⟨rfl,(h.keep hB).mc,hw.trans (Fr.of_below hB)⟩
theorem Qn{a:Int}(h:LS e P ks loc (s ++ [y,z]) sts fl q false V.zero sZ w)(sy:Snd y)(sz:Snd z)(hn:s.length+1<=900000):Calls Tryz.prog 52 #[pt e.b 0,iv a] w (StP e w (opR (binV a y z) q loc s sts fl)):=by
 obtain⟨g,ck,w1,ay,cy,az,cz,rfl,hW1,hC,h1,hfx,hg,c0,c1,c2,c3,d0,d1,d2,d3,hy,hz⟩:=h.two;have hO:∀wx,Below w1.heap.size w1 wx->Calls Tryz.prog 83 #[iv a,.agg #[iv y.k,iv y.n,bz y.t,.slice ay y.l.length cy],.agg #[iv z.k,iv z.n,bz z.t,.slice az z.l.length cz]] wx fun r w'=>Br wx (binV a y z) r w':=fun wx hb=>(N0 a (hy.below hb) (hz.below hb) (by have:=sy.txt;omega) (by have:=sz.txt;omega)).mono (fun r w' hr=>by obtain⟨q1,q2,q3,q4⟩:=It (op:=a) hy.nr hz.nr sy.txt sz.txt;exact hr.out q1 q2 q3 q4)
 obtain⟨O,hOO⟩:∃O:V × Int,(binV a y z)=O:=⟨_,rfl⟩;rw[hOO] at hO ⊢;have HM:=fun (w3:World) (ao:Option Addr) (cap:Nat)=>LS.made (o:=O) (w3:=w3) (ao:=ao) (cap:=cap) (w2:=w) h1
 replace HM:Hid _:=HM;have HX:Hid (Fx e w w1):=hfx;clear h sy sz hy hz hOO hfx h1 hW1;go_enter Tryz.func52,Tryz.ntmps52;go_wp2_with fail;refine hC.mono ?_;rintro r w2 ⟨rfl,hw2⟩;subst hw2;clear hC;go_wp2_with fail;have hSk:∀wx,Below w2.heap.size w2 wx->wx.cell? ⟨g,s.length*4,none⟩=some (iv y.k)∧wx.cell? ⟨g,s.length*4+1,none⟩=some (iv y.n)∧wx.cell? ⟨g,s.length*4+2,none⟩=some (bz y.t)∧wx.cell? ⟨g,s.length*4+3,none⟩=some (.slice ay y.l.length cy)∧wx.cell? ⟨g,s.length*4+4,none⟩=some (iv z.k)∧wx.cell? ⟨g,s.length*4+5,none⟩=some (iv z.n)∧wx.cell? ⟨g,s.length*4+6,none⟩=some (bz z.t)∧wx.cell? ⟨g,s.length*4+7,none⟩=some (.slice az z.l.length cz):=fun wx hb=>by obtain⟨fx,-⟩:=Ag hb;exact⟨(fx _ _ hg).trans c0,(fx _ _ hg).trans c1,(fx _ _ hg).trans c2,(fx _ _ hg).trans c3,(fx _ _ hg).trans d0,(fx _ _ hg).trans d1,(fx _ _ hg).trans d2,(fx _ _ hg).trans d3⟩
 clear c0 c1 c2 c3 d0 d1 d2 d3;refine wpE_begin (S:=fun w'=>w'.cell? ⟨g,s.length*4,none⟩=some (iv y.k)∧w'.cell? ⟨g,s.length*4+1,none⟩=some (iv y.n)∧w'.cell? ⟨g,s.length*4+2,none⟩=some (bz y.t)∧w'.cell? ⟨g,s.length*4+3,none⟩=some (.slice ay y.l.length cy)∧w'.cell? ⟨g,s.length*4+4,none⟩=some (iv z.k)∧w'.cell? ⟨g,s.length*4+5,none⟩=some (iv z.n)∧w'.cell? ⟨g,s.length*4+6,none⟩=some (bz z.t)∧w'.cell? ⟨g,s.length*4+7,none⟩=some (.slice az z.l.length cz)) (N:=fun j=>decide (j<12)) (by kernel_rfl) ?_;have hS0:w2.drew.cell? ⟨g,s.length*4,none⟩=some (iv y.k)∧w2.drew.cell? ⟨g,s.length*4+1,none⟩=some (iv y.n)∧w2.drew.cell? ⟨g,s.length*4+2,none⟩=some (bz y.t)∧w2.drew.cell? ⟨g,s.length*4+3,none⟩=some (.slice ay y.l.length cy)∧w2.drew.cell? ⟨g,s.length*4+4,none⟩=some (iv z.k)∧w2.drew.cell? ⟨g,s.length*4+5,none⟩=some (iv z.n)∧w2.drew.cell? ⟨g,s.length*4+6,none⟩=some (bz z.t)∧w2.drew.cell? ⟨g,s.length*4+7,none⟩=some (.slice az z.l.length cz):=hSk _ (Af w2 1);refine Ab (some 7) [12] 0 (pt e.b 0) rfl rfl (by kernel_rfl) (fun _ _ _ h=>h) rfl (by intro w hS;(try dsimp only at hS);go_split_ands;go_simp) hS0 ?_
 try simp only[aP]
 refine Ab (some 8) [8,9,10,11,12] 1 (iv a) rfl rfl (by kernel_rfl) (fun _ _ _ h=>h) rfl (by intro w hS;(try dsimp only at hS);go_split_ands;go_simp) hS0 ?_
 try simp only[aP]
 refine Ab (some 9) [3,4,8,9,10,11,12] 2 (sL g (s.length*4) 2 (ck - s.length)) rfl rfl (by kernel_rfl) (fun _ _ _ h=>h) rfl (by intro w hS;(try dsimp only at hS);go_split_ands;go_simp) hS0 ?_
 try simp only[aP]
 refine Ab (some 10) [4,8,9,10,11,12] 3 (pt g (s.length*4)) rfl rfl (by kernel_rfl) (fun _ _ _ h=>h) rfl (by intro w hS;(try dsimp only at hS);go_split_ands;go_simp) hS0 ?_
 try simp only[aP]
 refine Ab (some 11) [8,9,10,11,12] 4 (.agg #[iv y.k,iv y.n,bz y.t,.slice ay y.l.length cy]) rfl rfl (by kernel_rfl) (fun _ _ _ h=>h) rfl (by intro w hS;(try dsimp only at hS);go_split_ands;go_simp) hS0 ?_
 try simp only[aP]
 refine Ab (some 12) [6,7,8,9,10,11,12] 5 (sL g (s.length*4) 2 (ck - s.length)) rfl rfl (by kernel_rfl) (fun _ _ _ h=>h) rfl (by intro w hS;(try dsimp only at hS);go_split_ands;go_simp) hS0 ?_
 try simp only[aP]
 refine Ab (some 13) [7,8,9,10,11,12] 6 (pt g (s.length*4+4)) rfl rfl (by kernel_rfl) (fun _ _ _ h=>h) rfl (by intro w hS;(try dsimp only at hS);go_split_ands;go_simp) hS0 ?_
 try simp only[aP]
 refine Ab (some 14) [8,9,10,11,12] 7 (.agg #[iv z.k,iv z.n,bz z.t,.slice az z.l.length cz]) rfl rfl (by kernel_rfl) (fun _ _ _ h=>h) rfl (by intro w hS;(try dsimp only at hS);go_split_ands;go_simp) hS0 ?_
 try simp only[aP]
 refine Ac (i:=8) (by kernel_rfl) rfl rfl (fun K hK=>?_);go_simp;refine (hO _ (Af w2 1)).mono ?_;rintro r w3 ⟨⟨ao,cap,rfl,hx3⟩,hb3⟩;replace hb3:Below w2.heap.size w2 w3:=Ad hb3;replace hx3:IsW (From w2.heap.size) w3 O.1 (.slice ao O.1.l.length cap):=hx3;clear hO;have hS3:=hSk w3 hb3;refine hK _ _ (fun _=>hS3) ?_;clear hK K
 try simp only[aP]
 refine Ab (some 16) [11,12] 9 (.agg #[iv O.1.k,iv O.1.n,.string ⟨O.1.t.toArray⟩,.slice ao O.1.l.length cap]) rfl rfl (by kernel_rfl) (fun _ _ _ h=>h) rfl (by intro w hS;(try dsimp only at hS);go_split_ands;go_simp) hS3 ?_
 try simp only[aP]
 refine Ab (some 17) [11,12] 10 (iv O.2) rfl rfl (by kernel_rfl) (fun _ _ _ h=>h) rfl (by intro w hS;(try dsimp only at hS);go_split_ands;go_simp) hS3 ?_
 try simp only[aP]
 by_cases h0:O.2=0
 ·have HP:=(HM.out w3 ao cap hx3 hb3 HX.out hn).1 h0;replace HP:Hid _:=HP;rw[h0];clear HM h0;refine Ac (i:=11) (by kernel_rfl) rfl rfl (fun K hK=>?_);go_simp;refine (F8 w3 O.1 ao _ cap).mono ?_;rintro r w4 ⟨rfl,hb4⟩;refine hK _ _ (fun _=>hSk w4 (hb3.trans (hb4.mono hb3.size))) ?_;clear hK K
  try simp only[aP]
  refine Ac (i:=12) (by kernel_rfl) rfl rfl (fun K hK=>?_);go_simp;refine (HP.out w4 hb4).mono ?_;rintro r w5 ⟨rfl,hp⟩;refine hK _ _ (fun h=>by cases h) ?_;clear hK K
  try simp only[aP]
  refine Am (by kernel_rfl) ?_;exact bodyPost_end (results_none rfl _ _ _) rfl hp
 ·have HP:=(HM.out w3 ao cap hx3 hb3 HX.out hn).2 h0;replace HP:Hid _:=HP;clear HM;refine Ac (i:=11) (by kernel_rfl) rfl rfl (fun K hK=>?_);go_simp;refine (F9 w3 O.1 ao _ cap h0).mono ?_;rintro r w4 ⟨rfl,hb4⟩;exact⟨rfl,HP.out w4 hb4⟩
theorem N4{a:Int}{KF:FuncId}{gc:Nat}{O:V × Int}(h:LS e P ks loc (s ++ [y,z]) sts fl q false V.zero sZ w)(hK:A3 KF)(hgc:w.cell? ⟨gc,0,none⟩=some (.func (Fn.func KF) #[] #[]))(hgl:gc<w.heap.size)(hgb:gc≠e.b)
  (hOK:∀(wx:World) (ay:Option Addr) (cy:Nat) (az:Option Addr) (cz:Nat),IsW P wx y (.slice ay y.l.length cy)->IsW P wx z (.slice az z.l.length cz)->Calls Tryz.prog KF #[.agg #[iv y.k,iv y.n,bz y.t,.slice ay y.l.length cy],.agg #[iv z.k,iv z.n,bz z.t,.slice az z.l.length cz]] wx fun r w'=>Br wx O r w') (hn:s.length+1<=900000):Calls Tryz.prog 94 #[pt e.b 0,iv a,pt gc 0] w (StP e w (opR O q loc s sts fl)):=by
 obtain⟨g,ck,w1,ay,cy,az,cz,rfl,hW1,hC,h1,hfx,hg,c0,c1,c2,c3,d0,d1,d2,d3,hy,hz⟩:=h.two;have hO:∀wx,Below w1.heap.size w1 wx->Calls Tryz.prog KF #[.agg #[iv y.k,iv y.n,bz y.t,.slice ay y.l.length cy],.agg #[iv z.k,iv z.n,bz z.t,.slice az z.l.length cz]] wx fun r w'=>Br wx O r w':=fun wx hb=>hOK wx ay cy az cz (hy.below hb) (hz.below hb)
 have k0:w1.cell? ⟨gc,0,none⟩=some (.func (Fn.func KF) #[] #[]):=by rw[<-hW1,World.cell?_of_block (Below.heap_setCell _ _ _ _ hgb)];exact hgc
 have hgl1:gc<w1.heap.size:=by rw[<-hW1];simpa [World.setCell] using hgl
 have HM:=fun (w3:World) (ao:Option Addr) (cap:Nat)=>LS.made (o:=O) (w3:=w3) (ao:=ao) (cap:=cap) (w2:=w) h1
 replace HM:Hid _:=HM;have HX:Hid (Fx e w w1):=hfx;unfold A3 at hK;clear h hy hz hfx h1 hW1 hOK hgc hgl;go_enter Tryz.func94,Tryz.ntmps94;go_wp2_with fail;refine hC.mono ?_;rintro r w2 ⟨rfl,hw2⟩;subst hw2;clear hC;go_wp2_with fail;have hSk:∀wx,Below w2.heap.size w2 wx->wx.cell? ⟨g,s.length*4,none⟩=some (iv y.k)∧wx.cell? ⟨g,s.length*4+1,none⟩=some (iv y.n)∧wx.cell? ⟨g,s.length*4+2,none⟩=some (bz y.t)∧wx.cell? ⟨g,s.length*4+3,none⟩=some (.slice ay y.l.length cy)∧wx.cell? ⟨g,s.length*4+4,none⟩=some (iv z.k)∧wx.cell? ⟨g,s.length*4+5,none⟩=some (iv z.n)∧wx.cell? ⟨g,s.length*4+6,none⟩=some (bz z.t)∧wx.cell? ⟨g,s.length*4+7,none⟩=some (.slice az z.l.length cz)∧wx.cell? ⟨gc,0,none⟩=some (.func (Fn.func KF) #[] #[]):=fun wx hb=>by obtain⟨fx,-⟩:=Ag hb;exact⟨(fx _ _ hg).trans c0,(fx _ _ hg).trans c1,(fx _ _ hg).trans c2,(fx _ _ hg).trans c3,(fx _ _ hg).trans d0,(fx _ _ hg).trans d1,(fx _ _ hg).trans d2,(fx _ _ hg).trans d3,(fx _ _ hgl1).trans k0⟩
 clear c0 c1 c2 c3 d0 d1 d2 d3 k0;refine wpE_begin (S:=fun w'=>w'.cell? ⟨g,s.length*4,none⟩=some (iv y.k)∧w'.cell? ⟨g,s.length*4+1,none⟩=some (iv y.n)∧w'.cell? ⟨g,s.length*4+2,none⟩=some (bz y.t)∧w'.cell? ⟨g,s.length*4+3,none⟩=some (.slice ay y.l.length cy)∧w'.cell? ⟨g,s.length*4+4,none⟩=some (iv z.k)∧w'.cell? ⟨g,s.length*4+5,none⟩=some (iv z.n)∧w'.cell? ⟨g,s.length*4+6,none⟩=some (bz z.t)∧w'.cell? ⟨g,s.length*4+7,none⟩=some (.slice az z.l.length cz)∧w'.cell? ⟨gc,0,none⟩=some (.func (Fn.func KF) #[] #[])) (N:=fun j=>decide (j<12)) (by kernel_rfl) ?_;have hS0:w2.drew.cell? ⟨g,s.length*4,none⟩=some (iv y.k)∧w2.drew.cell? ⟨g,s.length*4+1,none⟩=some (iv y.n)∧w2.drew.cell? ⟨g,s.length*4+2,none⟩=some (bz y.t)∧w2.drew.cell? ⟨g,s.length*4+3,none⟩=some (.slice ay y.l.length cy)∧w2.drew.cell? ⟨g,s.length*4+4,none⟩=some (iv z.k)∧w2.drew.cell? ⟨g,s.length*4+5,none⟩=some (iv z.n)∧w2.drew.cell? ⟨g,s.length*4+6,none⟩=some (bz z.t)∧w2.drew.cell? ⟨g,s.length*4+7,none⟩=some (.slice az z.l.length cz)∧w2.drew.cell? ⟨gc,0,none⟩=some (.func (Fn.func KF) #[] #[]):=hSk _ (Af w2 1);refine Ab (some 8) [12] 0 (pt e.b 0) rfl rfl (by kernel_rfl) (fun _ _ _ h=>h) rfl (by intro w hS;(try dsimp only at hS);go_split_ands;go_simp) hS0 ?_
 try simp only[aP]
 refine Ab (some 9) [8,9,10,11,12] 1 (.func (Fn.func KF) #[] #[]) rfl rfl (by kernel_rfl) (fun _ _ _ h=>h) rfl (by intro w hS;(try dsimp only at hS);go_split_ands;go_simp) hS0 ?_
 try simp only[aP]
 refine Ab (some 10) [3,4,8,9,10,11,12] 2 (sL g (s.length*4) 2 (ck - s.length)) rfl rfl (by kernel_rfl) (fun _ _ _ h=>h) rfl (by intro w hS;(try dsimp only at hS);go_split_ands;go_simp) hS0 ?_
 try simp only[aP]
 refine Ab (some 11) [4,8,9,10,11,12] 3 (pt g (s.length*4)) rfl rfl (by kernel_rfl) (fun _ _ _ h=>h) rfl (by intro w hS;(try dsimp only at hS);go_split_ands;go_simp) hS0 ?_
 try simp only[aP]
 refine Ab (some 12) [8,9,10,11,12] 4 (.agg #[iv y.k,iv y.n,bz y.t,.slice ay y.l.length cy]) rfl rfl (by kernel_rfl) (fun _ _ _ h=>h) rfl (by intro w hS;(try dsimp only at hS);go_split_ands;go_simp) hS0 ?_
 try simp only[aP]
 refine Ab (some 13) [6,7,8,9,10,11,12] 5 (sL g (s.length*4) 2 (ck - s.length)) rfl rfl (by kernel_rfl) (fun _ _ _ h=>h) rfl (by intro w hS;(try dsimp only at hS);go_split_ands;go_simp) hS0 ?_
 try simp only[aP]
 refine Ab (some 14) [7,8,9,10,11,12] 6 (pt g (s.length*4+4)) rfl rfl (by kernel_rfl) (fun _ _ _ h=>h) rfl (by intro w hS;(try dsimp only at hS);go_split_ands;go_simp) hS0 ?_
 try simp only[aP]
 refine Ab (some 15) [8,9,10,11,12] 7 (.agg #[iv z.k,iv z.n,bz z.t,.slice az z.l.length cz]) rfl rfl (by kernel_rfl) (fun _ _ _ h=>h) rfl (by intro w hS;(try dsimp only at hS);go_split_ands;go_simp) hS0 ?_
 try simp only[aP]
 refine Ac (i:=8) (by kernel_rfl) rfl rfl (fun K hK=>?_);go_simp;refine (hO _ (Af w2 1)).mono ?_;rintro r w3 ⟨⟨ao,cap,rfl,hx3⟩,hb3⟩;replace hb3:Below w2.heap.size w2 w3:=Ad hb3;replace hx3:IsW (From w2.heap.size) w3 O.1 (.slice ao O.1.l.length cap):=hx3;clear hO;have hS3:=hSk w3 hb3;refine hK _ _ (fun _=>hS3) ?_;clear hK K
 try simp only[aP]
 refine Ab (some 17) [11,12] 9 (.agg #[iv O.1.k,iv O.1.n,.string ⟨O.1.t.toArray⟩,.slice ao O.1.l.length cap]) rfl rfl (by kernel_rfl) (fun _ _ _ h=>h) rfl (by intro w hS;(try dsimp only at hS);go_split_ands;go_simp) hS3 ?_
 try simp only[aP]
 refine Ab (some 18) [11,12] 10 (iv O.2) rfl rfl (by kernel_rfl) (fun _ _ _ h=>h) rfl (by intro w hS;(try dsimp only at hS);go_split_ands;go_simp) hS3 ?_
 try simp only[aP]
 by_cases h0:O.2=0
 ·have HP:=(HM.out w3 ao cap hx3 hb3 HX.out hn).1 h0;replace HP:Hid _:=HP;rw[h0];clear HM h0;refine Ac (i:=11) (by kernel_rfl) rfl rfl (fun K hK=>?_);go_simp;refine (F8 w3 O.1 ao _ cap).mono ?_;rintro r w4 ⟨rfl,hb4⟩;refine hK _ _ (fun _=>hSk w4 (hb3.trans (hb4.mono hb3.size))) ?_;clear hK K
  try simp only[aP]
  refine Ac (i:=12) (by kernel_rfl) rfl rfl (fun K hK=>?_);go_simp;refine (HP.out w4 hb4).mono ?_;rintro r w5 ⟨rfl,hp⟩;refine hK _ _ (fun h=>by cases h) ?_;clear hK K
  try simp only[aP]
  refine Am (by kernel_rfl) ?_;exact bodyPost_end (results_none rfl _ _ _) rfl hp
 ·have HP:=(HM.out w3 ao cap hx3 hb3 HX.out hn).2 h0;replace HP:Hid _:=HP;clear HM;refine Ac (i:=11) (by kernel_rfl) rfl rfl (fun K hK=>?_);go_simp;refine (F9 w3 O.1 ao _ cap h0).mono ?_;rintro r w4 ⟨rfl,hb4⟩;exact⟨rfl,HP.out w4 hb4⟩
theorem Tr{a:Int}{KF:FuncId}{gc:Nat}{O:V × Int}(h:LS e P ks loc (s ++ [y]) sts fl q false V.zero sZ w)(hK:A3 KF)(hgc:w.cell? ⟨gc,0,none⟩=some (.func (Fn.func KF) #[] #[]))(hgl:gc<w.heap.size)(hgb:gc≠e.b)
  (hOK:∀(wx:World) (ay:Option Addr) (cy:Nat),e.base<=wx.heap.size->Cj e.base wx->IsW P wx y (.slice ay y.l.length cy)->Calls Tryz.prog KF #[.agg #[iv y.k,iv y.n,bz y.t,.slice ay y.l.length cy]] wx fun r w'=>Br wx O r w') (hn:s.length+1<=900000):Calls Tryz.prog 84 #[pt e.b 0,iv a,pt gc 0] w (StP e w (opR O q loc s sts fl)):=by
 have hbd:Below w.heap.size w w.drew:=Af w 1;have hC:=Dc (h.keep hbd);have HM:=fun (ks':Value) (wq w3:World) (ao:Option Addr) (cap:Nat) (h1:LS e P ks' loc s sts fl q false V.zero sZ wq)=>LS.made (o:=O) (w3:=w3) (ao:=ao) (cap:=cap) (w2:=w) h1
 replace HM:Hid _:=HM;have HF:Hid (∀wq,Fr (fun k=>k≠e.b) w.drew wq->Fx e w wq):=fun wq hf=>h.fxb ((Fr.of_below hbd).trans hf)
 have HO:Hid _:=hOK;unfold A3 at hK;clear h hOK hbd;go_enter Tryz.func84,Tryz.ntmps84;go_wp2_with fail;refine wpE_begin (S:=fun w'=>w'.cell? ⟨gc,0,none⟩=some (.func (Fn.func KF) #[] #[])∧True) (N:=fun j=>decide (j<8)) (by kernel_rfl) ?_;have hS0:w.drew.cell? ⟨gc,0,none⟩=some (.func (Fn.func KF) #[] #[])∧True:=⟨hgc,trivial⟩;refine Ab (some 5) [8] 0 (pt e.b 0) rfl rfl (by kernel_rfl) (fun _ _ _ h=>h) rfl (by intro w hS;(try dsimp only at hS);go_split_ands;go_simp) hS0 ?_
 try simp only[aP]
 refine Ab (some 6) [4,5,6,7,8] 1 (.func (Fn.func KF) #[] #[]) rfl rfl (by kernel_rfl) (fun _ _ _ h=>h) rfl (by intro w hS;(try dsimp only at hS);go_split_ands;go_simp) hS0 ?_
 try simp only[aP]
 refine Ab (some 7) [3,4,5,6,7,8] 2 (pt e.b 0) rfl rfl (by kernel_rfl) (fun _ _ _ h=>h) rfl (by intro w hS;(try dsimp only at hS);go_split_ands;go_simp) hS0 ?_
 try simp only[aP]
 refine Ac (i:=3) (by kernel_rfl) rfl rfl (fun K hK=>?_);go_simp;refine hC.mono ?_;rintro r w2 ⟨⟨ay,cy,rfl,hy⟩,⟨ks',h1⟩,hf1⟩;have k2:w2.cell? ⟨gc,0,none⟩=some (.func (Fn.func KF) #[] #[]):=(World.cell?_of_block (hf1.block gc hgb hgl)).trans hS0.1;have hg2:gc<w2.heap.size:=Nat.lt_of_lt_of_le hgl hf1.size;have hSk:∀wx,Below w2.heap.size w2 wx->wx.cell? ⟨gc,0,none⟩=some (.func (Fn.func KF) #[] #[])∧True:=fun wx hb=>⟨((Ag hb).1 _ _ hg2).trans k2,trivial⟩
 have hO:∀wx,Below w2.heap.size w2 wx->Calls Tryz.prog KF #[.agg #[iv y.k,iv y.n,bz y.t,.slice ay y.l.length cy]] wx fun r w'=>Br wx O r w':=fun wx hb=>HO.out wx ay cy (h1.keep hb).le (h1.keep hb).tb (hy.below hb)
 have HM2:=fun (w3:World) (ao:Option Addr) (cap:Nat)=>HM.out ks' w2 w3 ao cap h1
 replace HM2:Hid _:=HM2;have HX:Hid (Fx e w w2):=HF.out _ hf1;clear hC HM HF HO hy h1 hf1;refine hK _ _ (fun _=>⟨k2,trivial⟩) ?_;clear hK K
 try simp only[aP]
 have HM:Hid _:=HM2;clear HM2;refine Ac (i:=4) (by kernel_rfl) rfl rfl (fun K hK=>?_);go_simp;refine (hO _ (Below.refl _ _)).mono ?_;rintro r w3 ⟨⟨ao,cap,rfl,hx3⟩,hb3⟩;replace hx3:IsW (From w2.heap.size) w3 O.1 (.slice ao O.1.l.length cap):=hx3;clear hO;have hS3:=hSk w3 hb3;refine hK _ _ (fun _=>hS3) ?_;clear hK K
 try simp only[aP]
 refine Ab (some 10) [7,8] 5 (.agg #[iv O.1.k,iv O.1.n,.string ⟨O.1.t.toArray⟩,.slice ao O.1.l.length cap]) rfl rfl (by kernel_rfl) (fun _ _ _ h=>h) rfl (by intro w hS;(try dsimp only at hS);go_split_ands;go_simp) hS3 ?_
 try simp only[aP]
 refine Ab (some 11) [7,8] 6 (iv O.2) rfl rfl (by kernel_rfl) (fun _ _ _ h=>h) rfl (by intro w hS;(try dsimp only at hS);go_split_ands;go_simp) hS3 ?_
 try simp only[aP]
 by_cases h0:O.2=0
 ·have HP:=(HM.out w3 ao cap hx3 hb3 HX.out hn).1 h0;replace HP:Hid _:=HP;rw[h0];clear HM h0;refine Ac (i:=7) (by kernel_rfl) rfl rfl (fun K hK=>?_);go_simp;refine (F8 w3 O.1 ao _ cap).mono ?_;rintro r w4 ⟨rfl,hb4⟩;refine hK _ _ (fun _=>hSk w4 (hb3.trans (hb4.mono hb3.size))) ?_;clear hK K
  try simp only[aP]
  refine Ac (i:=8) (by kernel_rfl) rfl rfl (fun K hK=>?_);go_simp;refine (HP.out w4 hb4).mono ?_;rintro r w5 ⟨rfl,hp⟩;refine hK _ _ (fun h=>by cases h) ?_;clear hK K
  try simp only[aP]
  refine Am (by kernel_rfl) ?_;exact bodyPost_end (results_none rfl _ _ _) rfl hp
 ·have HP:=(HM.out w3 ao cap hx3 hb3 HX.out hn).2 h0;replace HP:Hid _:=HP;clear HM;refine Ac (i:=7) (by kernel_rfl) rfl rfl (fun K hK=>?_);go_simp;refine (F9 w3 O.1 ao _ cap h0).mono ?_;rintro r w4 ⟨rfl,hb4⟩;exact⟨rfl,HP.out w4 hb4⟩
end
section
variable {e:En} {P:Nat->Prop} {ks:Value} {loc stk sts s:List V} {fl:Int} {q:Nat} {dn:Bool} {x y z u:V} {xs:Value} {w w' w2:World} {q':Int}
theorem Ix{B:Nat->Prop}{v:V}(hl:v.l=[])(ht:v.t.length<=maxLen)(hk:InR v.k)(hn:InR v.n):IsW B w v sZ:=⟨ht,hk,hn,by rw[hl];exact Al.nil⟩
theorem Iy{B:Nat->Prop}(b:Bool):IsW B w (bV' b) sZ:=Ix rfl (by unfold maxLen;simp[V.t]) (by unfold InR;show (-9223372036854775808:Int)<=2∧(2:Int)<=_;omega) (by
 unfold InR;show (-9223372036854775808:Int)<=(if b then 1 else 0)∧(if b then 1 else 0)<=(9223372036854775807:Int);cases b <;> simp)
theorem Xo(a:Int)(h:LS e P ks loc (s ++ [y]) sts fl q false V.zero sZ w)(sy:Snd y)(hn:s.length+1<=900000):Calls Tryz.prog 55 #[pt e.b 0,iv a] w (StP e w (opR (bV' (decide (y.n=0)),if y.k=2 then 0 else 40) q loc s sts fl)):=by
 have HF:Hid (∀w',Fr (fun k=>k≠e.b) w w'->Fx e w w'):=fun w' hf=>h.fxb hf
 by_cases hk:y.k=2
 ·have hC:=Iw h hk;have hnn:(!(y.n == 1))=decide (y.n=0):=by
   obtain⟨k,n,t,l⟩:=y;obtain rfl:k=2:=hk;have h2:=(Xi.1 sy.2).1;show (!(n == 1))=decide (n=0);rcases h2 with rfl | rfl <;> rfl
  rw[if_pos hk];obtain⟨b,hb⟩:∃b,(y.n == 1)=b:=⟨_,rfl⟩;rw[hb] at hC hnn;rw[<-hnn];have HM:=fun (ks':Value) (wq w3:World) (h1:LS e P ks' loc s sts fl q false V.zero sZ wq)=>LS.made (o:=(bV' (!b),0)) (w3:=w3) (ao:=none) (cap:=0) (w2:=w) h1 (Iy _)
  replace HM:Hid _:=HM;clear h hk sy hnn hb;go_enter Tryz.func55,Tryz.ntmps55;go_wp2_with fail;refine hC.mono ?_;rintro r w1 ⟨rfl,⟨ks',h1⟩,hf1⟩;have HM1:=fun w3 hb=>(HM.out ks' w1 w3 h1 hb (HF.out _ hf1) hn).1 (by simp)
  replace HM1:Hid _:=HM1;have hB:=Ew (!b) w1;clear hC HF h1 hf1 HM;go_wp2_with fail;refine hB.mono ?_;rintro r w3 ⟨rfl,hb3⟩;have hP:=HM1.out w3 hb3 w3 (Below.refl _ _);simp only[V.k,V.n,V.t,V.l,List.length_nil] at hP;clear hB HM1;generalize (if (!b)=true then (1:Int) else 0)=bn at *;go_wp2_with fail;refine hP.mono ?_;rintro r w5 ⟨rfl,hp⟩;have HP:Hid _:=hp;clear hP hp;go_wp2_with fail
  go_end0
  exact HP.out
 ·rw[if_neg hk];have hC:=J4 h hk;have hm:=h.mc;have hpb:e.p≠e.b:=by have:=h.pl;have:=h.lb;omega
  have HP:Hid (∀w',Fr (fun k=>k≠e.b) w w'->StP e w (opR (bV' (decide (y.n=0)),40) q loc s sts fl) (.panicked (Ca 40)) w'):=fun w' hf=>by
   unfold opR;rw[if_pos (by simp)];exact⟨rfl,hm.keep (hf.block _ hpb hm.lt),h.fxb hf⟩
  clear h hk hm sy;go_enter Tryz.func55,Tryz.ntmps55;go_wp2_with fail;refine hC.mono ?_;rintro r w1 ⟨rfl,hf1⟩;exact⟨rfl,HP.out _ hf1⟩
theorem Xp(a:Int)(h:LS e P ks loc (s ++ [y]) sts fl q false V.zero sZ w)(sy:Snd y)(hn:s.length+1<=900000):Calls Tryz.prog 56 #[pt e.b 0,iv a] w (StP e w (opR (nV (Bp y).1,(Bp y).2) q loc s sts fl)):=by
 have HF:Hid (∀w',Fr (fun k=>k≠e.b) w w'->Fx e w w'):=fun w' hf=>h.fxb hf
 have hC:=Dc h;have hL:=fun (ay:Option Addr) (cy:Nat) (wq:World) (hy:IsW P wq y (.slice ay y.l.length cy))=>V1 hy
 replace hL:Hid _:=hL;have hlr:InR ((Bp y).1:Int):=by
  have h1:=sy.txt;have h2:=Bw y;have h3:=A4 y.l;have h4:=sy.1;unfold Bp InR;split
  ·show (-9223372036854775808:Int)<=(y.t.length:Nat)∧_;omega
  split
  ·show (-9223372036854775808:Int)<=(y.l.length:Nat)∧_;omega
  split
  ·show (-9223372036854775808:Int)<=(y.l.length / 2:Nat)∧_;omega
  ·show (-9223372036854775808:Int)<=(0:Nat)∧_;omega
 have HM:=fun (ks':Value) (wq w3:World) (h1:LS e P ks' loc s sts fl q false V.zero sZ wq)=>LS.made (o:=(nV (Bp y).1,(Bp y).2)) (w3:=w3) (ao:=none) (cap:=0) (w2:=w) h1 (Ix rfl (by unfold maxLen;simp[V.t]) (by unfold InR;show (-9223372036854775808:Int)<=1∧(1:Int)<=_;omega) hlr)
 replace HM:Hid _:=HM;clear h sy hlr;go_enter Tryz.func56,Tryz.ntmps56;go_wp2_with fail;refine hC.mono ?_;rintro r w1 ⟨⟨ay,cy,rfl,hy⟩,⟨ks',h1⟩,hf1⟩;have hl:=hL.out ay cy w1 hy;have HM1:=fun w3 hb=>HM.out ks' w1 w3 h1 hb (HF.out _ hf1) hn
 replace HM1:Hid _:=HM1;clear hC HF h1 hf1 HM hL hy;go_wp2_with fail;refine hl.mono ?_;rintro r w2 ⟨rfl,hb2⟩;clear hl;by_cases h0:(Bp y).2=0
 ·have HM2:=fun w3 (hb:Below w2.heap.size w2 w3)=>(HM1.out w3 (hb2.trans (hb.mono hb2.size))).1 h0
  rw[h0];replace HM2:Hid _:=HM2;clear HM1 h0;have hI:=Tk w2 ((Bp y).1:Int);generalize (Bp y).1=ln at *;go_wp2_with fail;refine hI.mono ?_;rintro r w3 ⟨rfl,hb3⟩;have hJ:=Ki (ln:Int) w3;clear hI;go_wp2_with fail;refine hJ.mono ?_;rintro r w4 ⟨rfl,hb4⟩;have hP:=HM2.out w4 (hb3.trans (hb4.mono hb3.size)) w4 (Below.refl _ _);simp only[V.k,V.n,V.t,V.l,List.length_nil] at hP;clear hJ HM2;go_wp2_with fail;refine hP.mono ?_;rintro r w5 ⟨rfl,hp⟩;have HP:Hid _:=hp;clear hP hp;go_wp2_with fail
  go_end0
  exact HP.out
 ·have HM2:=fun w3 (hb:Below w2.heap.size w2 w3)=>(HM1.out w3 (hb2.trans (hb.mono hb2.size))).2 h0 w3 (Below.refl _ _)
  replace HM2:Hid _:=HM2;clear HM1;have hI:=Tl w2 ((Bp y).1:Int) h0;go_wp2_with fail;refine hI.mono ?_;rintro r w3 ⟨rfl,hb3⟩;exact⟨rfl,HM2.out w3 hb3⟩
theorem Ts{i:Nat}(h:LS e P ks loc (s ++ [y]) sts fl q false V.zero sZ w)(hi:i<loc.length):Calls Tryz.prog 42 #[pt e.b 0,iv (i:Int)] w (StP e w (.go q (loc.set i y) s sts fl)):=by
 have hbd:Below w.heap.size w w.drew:=Af w 1;have hd:=h.keep hbd;have hC:=Dc hd;obtain⟨al,cl,hls,hcl,hcm⟩:=h.lc.slice;have hrow:=h.lc;rw[hls] at hrow;obtain⟨g,y0,y1,y2,y3,e1,-,hg,-,-,-,-,-,-,-,-⟩:=hrow.cells hi;subst e1;obtain⟨b0,b1,-⟩:=hd.fr.cells;obtain⟨-,-,-,m3,-⟩:=Ak hd.mc;rw[hls] at b1;have hpb:e.p≠e.b:=by have:=h.pl;have:=h.lb;omega
 have hbl:=hd.fr.lt;have hml:=hd.mc.lt;have HF:Hid (∀wq,Fr (fun k=>k≠e.b) w.drew wq->Fx e w wq):=fun wq hf=>h.fxb ((Fr.of_below hbd).trans hf)
 have HL:Hid (e.ls=sL g 0 loc.length cl):=hls;have Hi:Hid (i<loc.length):=hi;have hI:(i:Int)<(loc.length:Int):=by omega
 have hI0:(0:Int)<=(i:Int):=by omega
 have Hpb:Hid (e.p≠e.b):=hpb;clear h hbd hd hls hrow hi hcl hpb;go_enter Tryz.func42,Tryz.ntmps42;go_wp2_with fail;refine wpE_begin (S:=fun w'=>w'.cell? ⟨e.b,1,none⟩=some (sL g 0 loc.length cl)∧True) (N:=fun j=>decide (j<7)) (by kernel_rfl) ?_;have hS0:w.drew.cell? ⟨e.b,1,none⟩=some (sL g 0 loc.length cl)∧True:=⟨b1,trivial⟩;refine Ab (some 4) [1,2,3,7,8] 0 (pt e.b 0) rfl rfl (by kernel_rfl) (fun _ _ _ h=>h) rfl (by intro w hS;(try dsimp only at hS);go_split_ands;go_simp) hS0 ?_
 try simp only[aP]
 refine Ab (some 5) [2,3,7,8] 1 (pt e.b 0) rfl rfl (by kernel_rfl) (fun _ _ _ h=>h) rfl (by intro w hS;(try dsimp only at hS);go_split_ands;go_simp) hS0 ?_
 try simp only[aP]
 refine Ab (some 6) [3,7,8] 2 (pt e.b 1) rfl rfl (by kernel_rfl) (fun _ _ _ h=>h) rfl (by intro w hS;(try dsimp only at hS);go_split_ands;go_simp) hS0 ?_
 try simp only[aP]
 refine Ab (some 7) [7,8] 3 (sL g 0 loc.length cl) rfl rfl (by kernel_rfl) (fun _ _ _ h=>h) rfl (by intro w hS;(try dsimp only at hS);go_split_ands;go_simp) hS0 ?_
 try simp only[aP]
 refine Ab (some 8) [7,8] 4 (iv (i:Int)) rfl rfl (by kernel_rfl) (fun _ _ _ h=>h) rfl (by intro w hS;(try dsimp only at hS);go_split_ands;go_simp) hS0 ?_
 try simp only[aP]
 refine Ab (some 9) [6,7,8] 5 (pt e.b 0) rfl rfl (by kernel_rfl) (fun _ _ _ h=>h) rfl (by intro w hS;(try dsimp only at hS);go_split_ands;go_simp) hS0 ?_
 try simp only[aP]
 refine Ac (i:=6) (by kernel_rfl) rfl rfl (fun K hK=>?_);go_simp;refine hC.mono ?_;rintro r w2 ⟨⟨ay,cy,rfl,hy⟩,⟨ks',h1⟩,hf1⟩;have hS2:w2.cell? ⟨e.b,1,none⟩=some (sL g 0 loc.length cl):=by rw[h1.fr.cells.2.1,HL.out]
 have hrow2:=h1.lc;rw[HL.out] at hrow2;obtain⟨g',z0,z1,z2,z3,e1,-,hg2,k0,k1,k2,k3,n0,n1,n2,n3⟩:=hrow2.cells (i:=i) Hi.out;simp only[Option.some.injEq,Addr.mk.injEq] at e1;obtain⟨rfl,-⟩:=e1;have hfin:Hid (StP e w (.go q (loc.set i y) s sts fl) (.returned (.tuple #[])) (set4At w2 g (i*4) (iv y.k) (iv y.n) (bz y.t) (.slice ay y.l.length cy))):=⟨rfl,⟨P,ks',h1.setL HL.out Hi.out hy⟩,(HF.out _ hf1).trans (h1.fxl HL.out _ _ _ _ _)⟩;clear hC HF HL h1 hf1 hy hrow2;refine hK _ _ (fun _=>⟨hS2,trivial⟩) ?_;clear hK K
 try simp only[aP]
 refine Ac (i:=7) (by kernel_rfl) rfl rfl (fun K hK=>?_);go_simp;refine hK _ _ (fun h=>by cases h) ?_;clear hK K
 try simp only[aP]
 refine Ac (i:=8) (by kernel_rfl) rfl rfl (fun K hK=>?_);go_simp;refine hK _ _ (fun h=>by cases h) ?_;clear hK K
 try simp only[aP]
 refine Am (by kernel_rfl) ?_;exact bodyPost_end (results_none rfl _ _ _) rfl hfin.out
theorem Xq{i:Nat}(h:LS e P ks loc (s ++ [y]) sts fl q false V.zero sZ w)(hi:i<sts.length):Calls Tryz.prog 45 #[pt e.b 0,iv (i:Int)] w (StP e w (.go q loc s (sts.set i y) fl)):=by
 have hbd:Below w.heap.size w w.drew:=Af w 1;have hd:=h.keep hbd;have hC:=Dc hd;obtain⟨al,cl,hls,hcl,hcm⟩:=h.st.slice;have hrow:=h.st;rw[hls] at hrow;obtain⟨g,y0,y1,y2,y3,e1,-,hg,-,-,-,-,-,-,-,-⟩:=hrow.cells hi;subst e1;obtain⟨b0,b1,-⟩:=hd.fr.cells;obtain⟨-,-,-,m3,-⟩:=Ak hd.mc;rw[hls] at m3;have hpb:e.p≠e.b:=by have:=h.pl;have:=h.lb;omega
 have hbl:=hd.fr.lt;have hml:=hd.mc.lt;have HF:Hid (∀wq,Fr (fun k=>k≠e.b) w.drew wq->Fx e w wq):=fun wq hf=>h.fxb ((Fr.of_below hbd).trans hf)
 have HL:Hid (e.ss=sL g 0 sts.length cl):=hls;have Hi:Hid (i<sts.length):=hi;have hI:(i:Int)<(sts.length:Int):=by omega
 have hI0:(0:Int)<=(i:Int):=by omega
 have Hpb:Hid (e.p≠e.b):=hpb;clear h hbd hd hls hrow hi hcl hpb;go_enter Tryz.func45,Tryz.ntmps45;go_wp2_with fail;refine wpE_begin (S:=fun w'=>w'.cell? ⟨e.b,0,none⟩=some (pt e.p 0)∧w'.cell? ⟨e.p,3,none⟩=some (sL g 0 sts.length cl)) (N:=fun j=>decide (j<10)) (by kernel_rfl) ?_;have hS0:w.drew.cell? ⟨e.b,0,none⟩=some (pt e.p 0)∧w.drew.cell? ⟨e.p,3,none⟩=some (sL g 0 sts.length cl):=⟨b0,m3⟩;refine Ab (some 4) [1,2,3,4,5,6,10,11] 0 (pt e.b 0) rfl rfl (by kernel_rfl) (fun _ _ _ h=>h) rfl (by intro w hS;(try dsimp only at hS);go_split_ands;go_simp) hS0 ?_
 try simp only[aP]
 refine Ab (some 5) [2,3,4,5,6,10,11] 1 (pt e.b 0) rfl rfl (by kernel_rfl) (fun _ _ _ h=>h) rfl (by intro w hS;(try dsimp only at hS);go_split_ands;go_simp) hS0 ?_
 try simp only[aP]
 refine Ab (some 6) [3,4,5,6,10,11] 2 (pt e.b 0) rfl rfl (by kernel_rfl) (fun _ _ _ h=>h) rfl (by intro w hS;(try dsimp only at hS);go_split_ands;go_simp) hS0 ?_
 try simp only[aP]
 refine Ab (some 7) [4,5,6,10,11] 3 (pt e.p 0) rfl rfl (by kernel_rfl) (fun _ _ _ h=>h) rfl (by intro w hS;(try dsimp only at hS);go_split_ands;go_simp) hS0 ?_
 try simp only[aP]
 refine Ab (some 8) [5,6,10,11] 4 (pt e.p 0) rfl rfl (by kernel_rfl) (fun _ _ _ h=>h) rfl (by intro w hS;(try dsimp only at hS);go_split_ands;go_simp) hS0 ?_
 try simp only[aP]
 refine Ab (some 9) [6,10,11] 5 (pt e.p 3) rfl rfl (by kernel_rfl) (fun _ _ _ h=>h) rfl (by intro w hS;(try dsimp only at hS);go_split_ands;go_simp) hS0 ?_
 try simp only[aP]
 refine Ab (some 10) [10,11] 6 (sL g 0 sts.length cl) rfl rfl (by kernel_rfl) (fun _ _ _ h=>h) rfl (by intro w hS;(try dsimp only at hS);go_split_ands;go_simp) hS0 ?_
 try simp only[aP]
 refine Ab (some 11) [10,11] 7 (iv (i:Int)) rfl rfl (by kernel_rfl) (fun _ _ _ h=>h) rfl (by intro w hS;(try dsimp only at hS);go_split_ands;go_simp) hS0 ?_
 try simp only[aP]
 refine Ab (some 12) [9,10,11] 8 (pt e.b 0) rfl rfl (by kernel_rfl) (fun _ _ _ h=>h) rfl (by intro w hS;(try dsimp only at hS);go_split_ands;go_simp) hS0 ?_
 try simp only[aP]
 refine Ac (i:=9) (by kernel_rfl) rfl rfl (fun K hK=>?_);go_simp;refine hC.mono ?_;rintro r w2 ⟨⟨ay,cy,rfl,hy⟩,⟨ks',h1⟩,hf1⟩;have hS2:w2.cell? ⟨e.b,0,none⟩=some (pt e.p 0)∧w2.cell? ⟨e.p,3,none⟩=some (sL g 0 sts.length cl):=by
  obtain⟨-,-,-,m3',-⟩:=Ak h1.mc;rw[HL.out] at m3';exact⟨h1.fr.cells.1,m3'⟩
 have hrow2:=h1.st;rw[HL.out] at hrow2;obtain⟨g',z0,z1,z2,z3,e1,-,hg2,k0,k1,k2,k3,n0,n1,n2,n3⟩:=hrow2.cells (i:=i) Hi.out;simp only[Option.some.injEq,Addr.mk.injEq] at e1;obtain⟨rfl,-⟩:=e1;have hfin:Hid (StP e w (.go q loc s (sts.set i y) fl) (.returned (.tuple #[])) (set4At w2 g (i*4) (iv y.k) (iv y.n) (bz y.t) (.slice ay y.l.length cy))):=⟨rfl,⟨P,ks',h1.setS HL.out Hi.out hy⟩,(HF.out _ hf1).trans (LS.fxs HL.out _ _ _ _ _)⟩;clear hC HF HL h1 hf1 hy hrow2;refine hK _ _ (fun _=>hS2) ?_;clear hK K
 try simp only[aP]
 refine Ac (i:=10) (by kernel_rfl) rfl rfl (fun K hK=>?_);go_simp;refine hK _ _ (fun h=>by cases h) ?_;clear hK K
 try simp only[aP]
 refine Ac (i:=11) (by kernel_rfl) rfl rfl (fun K hK=>?_);go_simp;refine hK _ _ (fun h=>by cases h) ?_;clear hK K
 try simp only[aP]
 refine Am (by kernel_rfl) ?_;exact bodyPost_end (results_none rfl _ _ _) rfl hfin.out
end
end
end Go.Proofs.YtnijcolomoobnaaGreatDoor
