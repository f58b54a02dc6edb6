/- A part of the proof: what it leans on. -/
import Derived.OneCell
import Derived.BigRegion
import Derived.Test.YtbjbjbpgmojcbacGreatLk07
set_option maxRecDepth 4000
set_option maxHeartbeats 4000000
namespace Go.Proofs.YtbjbjbpgmojcbacGreat
open Go.RowKit Go.Maps Go.ChangeShapes
theorem ZoS:(Tryz.prog.info? 3).map (fun i=>(i.zero,i.size,i.bytes))=some (some (.int .i64 0),1,8):=by kernel_rfl
theorem ZmS (s:ByteArray) (r:Nat):Tk.win s.data.toList r=(s.extract r (r+3)).data.toList:=by
 rw [Tk.Zad,show r+3 - r=3 by omega];rfl
theorem ZdP {w:World} {base gp bm r:Nat} {No:Nat->Prop} {s:ByteArray} (a:Nat) (h:PastAt w base gp bm No s r) (hr:a+3<=s.size->r=a) (ha:a<=s.size) (hs:s.size<=2000) :
 Calls Tryz.prog 117 #[.pointer (some ⟨gp,0,none⟩),.int .i64 a] w fun e w'=>e=.returned (.tuple #[.int .i64 ((Tk.lng s.data.toList a).1:Nat),.int .i64 ((Tk.lng s.data.toList a).2:Nat)])/\∃ n,w'=w.drewN n:=by
 have hl:s.data.toList.length=s.size:=by simp
 by_cases hm:a+3<=s.size
 ·obtain rfl:=hr hm;obtain ⟨ad,cap,hlk,hcl⟩:=ZlK h (by omega) (k:=s.extract r (r+3)) (nt (Nm.Zcx (nl _)) (by unfold maxLen;omega));rw [<-ZmS] at hlk hcl
  have hlng:Tk.lng s.data.toList r=(Tk.plc s.data.toList (Tk.win s.data.toList r) r).reverse.foldl (Tk.stp s.data.toList r (Tk.most s.data.toList r)) (0,0):=by
   unfold Tk.lng;rw [if_neg (by unfold Tk.most;omega)]
  rw [hlng];have hlen:=Tk.Zsi s.data.toList (Tk.win s.data.toList r) r;rcases hcl with h0 | ⟨g,rfl,hcell⟩
  ·exact Zdr gp bm 0 cap s r _ _ ad w h.c0 h.c1 hs hm (by show _=_;unfold Tk.most;rw [hl]) (by omega) hlk (.inl h0)
  ·exact Zdr gp bm g cap s r _ _ _ w h.c0 h.c1 hs hm (by show _=_;unfold Tk.most;rw [hl]) (by omega) hlk (.inr ⟨rfl,fun i p hp=>⟨Tk.ZtR (List.mem_of_getElem? hp),hcell i p hp⟩⟩)
 ·have hlng:Tk.lng s.data.toList a=(0,0):=by
   unfold Tk.lng;rw [if_pos (by unfold Tk.most;omega)]
  rw [hlng];exact Zfy gp s a w h.c0 hs (by omega) ha
def ZdN (w:World) (p:Addr):Nat:=match w.cell? p with | some v=>(intOf v).toNat | none=>0
theorem ZgC {w:World} {base gp bm r:Nat} {No:Nat->Prop} {s:ByteArray} (a:Nat) (h:PastAt w base gp bm No s r) (hno:∀ g,No g->g<w.heap.size) (hr:r<=a) (ha:a<=s.size) (hs:s.size<=2000) :
 Calls Tryz.prog 116 #[.pointer (some ⟨gp,0,none⟩),.int .i64 a] w fun e w'=>e=.returned (.tuple #[])/\Keeps w w' base gp bm No/\∃ r',r<=r'/\r'<=a/\(a+3<=s.size->r'=a)/\PastAt w' base gp bm No s r':=by
 obtain ⟨i0,hi,hz0,hz1,hz2⟩:=info_parts ZoS;go_enter Tryz.func116,Tryz.ntmps116
 go_wp2_with fail
 go_loopw [4] (fun _ wr=>∃ q:Nat,r<=q/\q<=a/\PastAt wr base gp bm No s q/\Keeps w wr base gp bm No) (fun _ wr=>a - ZdN wr ⟨gp,2,none⟩)
 case atStart=>exact ⟨r,nl _,hr,h,Keeps.refl _ _ _ _ _⟩
 case round =>
  obtain ⟨q,hq1,hq2,hp,G⟩:=hrel;have Hp:Hid (PastAt wr base gp bm No s q):=hp;obtain ⟨c0,c1,c2,f2,hgb,hne,hbs,-⟩:=hp;have hw3:IntKind.i64.wrap ((q:Int)+3)=(q:Int)+3:=IntWalk.i64_in _ ⟨by omega,by omega⟩;by_cases h1:q<a
  ·have d1:decide ((q:Int)<(a:Int))=true:=by simp;omega
   have d1':decide (q<a)=true:=by simp;omega
   by_cases h2:q+3<=s.size
   ·have d2:decide ((q:Int)+3<=(s.size:Int))=true:=by simp;omega
    have hsl:=ZdD s (q:Int) ((q:Int)+3) q (q+3) rfl (by omega) (by omega) (by omega);go_wp2_with fail
    go_quiet (fail)
    go_wp2_with fail
    go_quiet (fail)
    go_wp2_with fail
    generalize hW:(wr.drewN _).drewN _=W;have hbel:Below wr.heap.size wr W:=by rw [<-hW];exact below_drewN (below_drewN (bR _ _) _) _
    have hpW:=Hp.out.below hbel;have hsz:wr.heap.size=W.heap.size:=by rw [<-hW];rfl
    clear hW;obtain ⟨v,zs,hlk,hoi,hzl,hback⟩:=ZkS hpW (by omega) (k:=s.extract q (q+3)) (nt (Nm.Zcx (nl _)) (by unfold maxLen;omega)) (ZmS s q)
    have hbmW:bm<W.heap.size:=by
     obtain ⟨D,_,ho,_⟩:=hpW.map;obtain ⟨es,clock,hb,_⟩:=ho;exact (aG.1 hb).1
    have hgpW:gp<W.heap.size:=nT hgb hpW.bs;have hbsW:=hpW.bs;have HpW:Hid (PastAt W base gp bm No s q):=hpW;have e0:=hpW.c0;have e1:=hpW.c1;have e2:=hpW.c2;have ef:=hpW.f2;have C2:Hid (wr.cell? ⟨gp,2,none⟩=some (.int .i64 (q:Nat))):=c2;clear hpW c0 c1 c2 f2;have hlk1:(Instr.lookup 141 (.map (some bm)) (.string (s.extract q (q+3))) false).run Tryz.prog W.drew=.ok v W.drew:=hlk _ rfl;have hlk2:∀ o,(Instr.lookup 141 (.map (some bm)) (.string (s.extract q (q+3))) false).run Tryz.prog (W.alloc o).drew=.ok v (W.alloc o).drew:=fun o=>hlk _ (Below.heap_alloc W o bm hbmW)
    clear hlk;have hoiD:∀ o,(W.drew.alloc o).ownsRow base 3 1 v zs.length (zs.map (Value.int .i64)):=fun o=>(Zj hoi (bR _ _).drew).alloc o
    have hnov:∀ g,v.ownBlock=some g->base<=g:=fun g hg=>(hoi.lt g hg).1
    have hnw:=World.new_ne W.drew ⟨gp,1,none⟩ e1;have hnw2:=World.new_ne W.drew ⟨gp,2,none⟩ e2;have hnoW:∀ g,No g->g<W.heap.size:=fun g hg=>by have:=hno g hg;have:=G.size;omega
    have HG:Hid (Keeps w W base gp bm No):=G.trans (Keeps.of_below hbel)
    have HL:Hid (∀ w1 g cp,W.grownBy w1 v.ownBlock->w1.ownsRow base 3 1 (.slice (some ⟨g,0,none⟩) (zs.length+1) cp) (zs.length+1) (zs.map (Value.int .i64)++[.int .i64 (q:Nat)])->(v.ownBlock=some g\/W.heap.size<=g) →
     ∃ w2,(Instr.mapUpdate 141 (.map (some bm)) (.string (s.extract q (q+3))) (.slice (some ⟨g,0,none⟩) (zs.length+1) cp)).run Tryz.prog w1=.ok () w2 ∧
      (w1.cell? ⟨gp,1,none⟩=some (.map (some bm))/\w1.cell? ⟨gp,2,none⟩=some (.int .i64 (q:Nat)))/\(w2.cell? ⟨gp,1,none⟩=some (.map (some bm))/\w2.cell? ⟨gp,2,none⟩=some (.int .i64 (q:Nat)))/\w2.frozen? ⟨gp,2,none⟩=false ∧
      Hid (PastAt (w2.setCell ⟨gp,2,none⟩ (.int .i64 ((q+1:Nat):Int))) base gp bm No s (q+1))/\Hid (Keeps w (w2.setCell ⟨gp,2,none⟩ (.int .i64 ((q+1:Nat):Int))) base gp bm No)):=by
     intro w1 g cp hg1 hown1 hloc;obtain ⟨w2,hrun2,hg2,hmap2,hk2⟩:=hback w1 _ hg1 hown1 (hloc.imp id (fun hge=>⟨g,rfl,hge,fun hN=>by have:=hnoW g hN;omega⟩));have hne1:some gp ≠ v.ownBlock:=fun e=>by have:=hnov gp e.symm;omega
     have x1:w1.cell? ⟨gp,1,none⟩=some (.map (some bm)):=(hg1.cell_far _ hgpW hne1).trans e1;have x2:w1.cell? ⟨gp,2,none⟩=some (.int .i64 (q:Nat)):=(hg1.cell_far _ hgpW hne1).trans e2;have hbk:gp ≠ bm:=hne;have y0:=(hk2.cell (p:=⟨gp,0,none⟩) hgpW hbk hbk (.inl hgb)).trans e0;have y1:=(hk2.cell (p:=⟨gp,1,none⟩) hgpW hbk hbk (.inl hgb)).trans e1;have y2:=(hk2.cell (p:=⟨gp,2,none⟩) hgpW hbk hbk (.inl hgb)).trans e2;have yf:=(hk2.frozen (p:=⟨gp,2,none⟩) hgpW hbk hbk (.inl hgb)).trans ef;exact ⟨w2,hrun2,⟨x1,x2⟩,⟨y1,y2⟩,yf,ZmO y0 y1 y2 yf hgb hne (nt hbsW hk2.size) hmap2,(HG.out.trans (hk2.wide gp)).setCell _ _⟩
    clear hback HpW hnoW;go_region_held3 (fun w'=>w'.cell? ⟨gp,1,none⟩=some (.map (some bm))/\w'.cell? ⟨gp,2,none⟩=some (.int .i64 (q:Nat))) (first | go_keep | (constructor <;> assumption)) (first | (refine zsL _ rfl _ _ 24 rfl base 3 i0 (.int .i64 0) 1 8 U24 hi hz0 hz1 hz2 rfl (by decide) v _ _ rfl (hoiD _) ⟨W.drew.heap.size,0,none⟩ 1 1 [.int .i64 (q:Nat)] rfl rfl (cell_one_new _ _ _) (ints_oneCell .i64 [(q:Int)]) (by decide) (by unfold maxLen;omega) (by omega) (by simp;omega) _ rfl ?_;intro g cp w1 hown1 hgrow1 hat1 hlt1;obtain ⟨w2,hrun2,⟨k1,k2⟩,⟨k3,k4⟩,k5,HP2,HK2⟩:=HL.out w1 g cp ((World.grownBy_alloc W _ _).trans ⟨hgrow1.os,hgrow1.tape,hgrow1.output,hgrow1.size,hgrow1.block⟩) hown1 (hat1.imp id (fun e=>by rw [e];simp))))
    all_goals
     go_wp2_with fail
     go_roundw
     case rel=>exact ⟨q+1,by omega,by omega,HP2.out,HK2.out⟩
     case measure =>
      unfold ZdN;have hx:(w2.setCell ⟨gp,2,none⟩ (.int .i64 ((q:Int)+1))).cell? ⟨gp,2,none⟩=some (.int .i64 ((q+1:Nat):Int)):=HP2.out.c2;rw [hx,C2.out];simp [intOf];omega
   ·have d2:decide ((q:Int)+3<=(s.size:Int))=false:=by simp;omega
    go_wp2_with fail
    go_quiet (fail)
    go_wp2_with fail
    go_end0
    exact ⟨rfl,G.trans (Keeps.of_below (below_drewN (bR _ _) _)),q,hq1,hq2,fun _=>by omega,Hp.out.below (below_drewN (bR _ _) _)⟩
  ·have d1:decide ((q:Int)<(a:Int))=false:=by simp;omega
   have d1':decide (q<a)=false:=by simp;omega
   go_wp2_with fail
   go_quiet (fail)
   go_wp2_with fail
   go_end0
   exact ⟨rfl,G.trans (Keeps.of_below (below_drewN (bR _ _) _)),q,hq1,hq2,fun _=>by omega,Hp.out.below (below_drewN (bR _ _) _)⟩
structure Ord (B bm gp ga gf gl base:Nat):Prop where
 b:B<=bm
 p:bm<gp
 a:gp<ga
 f:ga<gf
 l:gf<gl
 s:gl<base
structure PS (w:World) (bm gp ga gf gl base:Nat) (s:ByteArray) (r a f:Nat) (v:Value) (l:List Tk.T):Prop where
 past:PastAt w base gp bm (fun g=>v.ownBlock=some g) s r
 ca:w.cell? ⟨ga,0,none⟩=some (.int .i64 (a:Nat))
 fa:w.frozen? ⟨ga,0,none⟩=false
 cf:w.cell? ⟨gf,0,none⟩=some (.int .i64 (f:Nat))
 ff:w.frozen? ⟨gf,0,none⟩=false
 cl:w.cell? ⟨gl,0,none⟩=some v
 fl:w.frozen? ⟨gl,0,none⟩=false
 own:w.ownsRow base 145 3 v l.length (tcs l)
section
variable {w w':World} {B bm gp ga gf gl base:Nat} {s:ByteArray} {r a f:Nat} {v:Value} {l:List Tk.T}
theorem PS.bs (h:PS w bm gp ga gf gl base s r a f v l):base<=w.heap.size:=h.past.bs
theorem PS.below (h:PS w bm gp ga gf gl base s r a f v l) (O:Ord B bm gp ga gf gl base) (hb:Below w.heap.size w w'):PS w' bm gp ga gf gl base s r a f v l:=by
 have hs:=h.bs;obtain ⟨o1,o2,o3,o4,o5,o6⟩:=O;refine ⟨h.past.below hb,?_,?_,?_,?_,?_,?_,Zj h.own hb⟩
 ·exact (hb.cell (by show ga<_;omega)).trans h.ca
 ·exact (hb.frozen (by show ga<_;omega)).trans h.fa
 ·exact (hb.cell (by show gf<_;omega)).trans h.cf
 ·exact (hb.frozen (by show gf<_;omega)).trans h.ff
 ·exact (hb.cell (by show gl<_;omega)).trans h.cl
 ·exact (hb.frozen (by show gl<_;omega)).trans h.fl
theorem PS.reach {r':Nat} (h:PS w bm gp ga gf gl base s r a f v l) (O:Ord B bm gp ga gf gl base) (hk:Keeps w w' base gp bm (fun g=>v.ownBlock=some g)) (hp:PastAt w' base gp bm (fun g=>v.ownBlock=some g) s r'):PS w' bm gp ga gf gl base s r' a f v l:=by
 have hs:=h.bs;obtain ⟨o1,o2,o3,o4,o5,o6⟩:=O;refine ⟨hp,?_,?_,?_,?_,?_,?_,?_⟩
 ·exact (hk.cell (by show ga<_;omega) (by show ga ≠ _;omega) (by show ga ≠ _;omega) (.inl (by show ga<_;omega))).trans h.ca
 ·exact (hk.frozen (by show ga<_;omega) (by show ga ≠ _;omega) (by show ga ≠ _;omega) (.inl (by show ga<_;omega))).trans h.fa
 ·exact (hk.cell (by show gf<_;omega) (by show gf ≠ _;omega) (by show gf ≠ _;omega) (.inl (by show gf<_;omega))).trans h.cf
 ·exact (hk.frozen (by show gf<_;omega) (by show gf ≠ _;omega) (by show gf ≠ _;omega) (.inl (by show gf<_;omega))).trans h.ff
 ·exact (hk.cell (by show gl<_;omega) (by show gl ≠ _;omega) (by show gl ≠ _;omega) (.inl (by show gl<_;omega))).trans h.cl
 ·exact (hk.frozen (by show gl<_;omega) (by show gl ≠ _;omega) (by show gl ≠ _;omega) (.inl (by show gl<_;omega))).trans h.fl
 ·rcases h.own.2 with ⟨e1,e2⟩ | ⟨g,cap,cur,rfl,hg,hh,hrest⟩
  ·exact ⟨h.own.1,.inl ⟨e1,e2⟩⟩
  ·have hlt:=(aG.1 hh).1;exact ⟨h.own.1,.inr ⟨g,cap,cur,rfl,hg,(hk.block g hlt (by omega) (by omega) (.inr rfl)).trans hh,hrest⟩⟩
theorem PastAt.other {No:Nat->Prop} {g:Nat} (h:PastAt w base gp bm No s r) (hg:w.grownBy w' (some g)) (h1:g ≠ gp) (h2:g ≠ bm) (h3:g<base):PastAt w' base gp bm No s r:=by
 obtain ⟨D,hm,ho,hsh,hr⟩:=h.map;have hlt:gp<w.heap.size:=nT h.gb h.bs;have hbm:bm<w.heap.size:=by obtain ⟨es,clock,hb,_⟩:=ho;exact (aG.1 hb).1
 have hne:some gp ≠ some g:=by simp;exact fun e=>h1 e.symm
 have hne2:some bm ≠ some g:=by simp;exact fun e=>h2 e.symm
 exact ⟨(hg.cell_far ⟨gp,0,none⟩ hlt hne).trans h.c0,(hg.cell_far ⟨gp,1,none⟩ hlt hne).trans h.c1,(hg.cell_far ⟨gp,2,none⟩ hlt hne).trans h.c2,(hg.frozen_far ⟨gp,2,none⟩ hlt hne).trans h.f2,h.gb,h.ne,nt h.bs hg.size,D,hm,
  ho.kept hg hne2 (ho.rowsAbove (fun j hj=>by cases hj;exact h3)),hsh.kept hg hbm hne2,hr⟩
theorem Zei (w:World) (g o:Nat) (u:Value):w.grownBy (w.setCell ⟨g,o,none⟩ u) (some g):=⟨rfl,rfl,rfl,by simp,fun k _ h2=>Below.heap_setCell _ _ _ _ (fun e=>h2 (by rw [e]))⟩
theorem ZbA (w:World) (p q:Addr) (u:Value) (h:p.block ≠ q.block):(w.setCell p u).cell? q=w.cell? q:=World.cell?_setCell_other w p q u (fun e=>h (by rw [e]))
theorem PS.setAt (h:PS w bm gp ga gf gl base s r a f v l) (O:Ord B bm gp ga gf gl base) (a':Nat):PS (w.setCell ⟨ga,0,none⟩ (.int .i64 (a':Nat))) bm gp ga gf gl base s r a' f v l:=by
 obtain ⟨o1,o2,o3,o4,o5,o6⟩:=O;have hg:=Zei w ga 0 (.int .i64 (a':Nat));refine ⟨h.past.other hg (by omega) (by omega) (by omega),cS w _ _ h.ca,?_,?_,?_,?_,?_,h.own.kept hg (.inr (fun e=>by have:=(h.own.lt ga e).1;omega))⟩
 ·rw [World.frozen?_setCell];exact h.fa
 ·rw [ZbA _ _ _ _ (by show ga ≠ gf;omega)];exact h.cf
 ·rw [World.frozen?_setCell];exact h.ff
 ·rw [ZbA _ _ _ _ (by show ga ≠ gl;omega)];exact h.cl
 ·rw [World.frozen?_setCell];exact h.fl
theorem PS.setFrom (h:PS w bm gp ga gf gl base s r a f v l) (O:Ord B bm gp ga gf gl base) (f':Nat):PS (w.setCell ⟨gf,0,none⟩ (.int .i64 (f':Nat))) bm gp ga gf gl base s r a f' v l:=by
 obtain ⟨o1,o2,o3,o4,o5,o6⟩:=O;have hg:=Zei w gf 0 (.int .i64 (f':Nat));refine ⟨h.past.other hg (by omega) (by omega) (by omega),?_,?_,cS w _ _ h.cf,?_,?_,?_,h.own.kept hg (.inr (fun e=>by have:=(h.own.lt gf e).1;omega))⟩
 ·rw [ZbA _ _ _ _ (by show gf ≠ ga;omega)];exact h.ca
 ·rw [World.frozen?_setCell];exact h.fa
 ·rw [World.frozen?_setCell];exact h.ff
 ·rw [ZbA _ _ _ _ (by show gf ≠ gl;omega)];exact h.cl
 ·rw [World.frozen?_setCell];exact h.fl
theorem PS.laid {g cp:Nat} {t:Tk.T} (h:PS w bm gp ga gf gl base s r a f v l) (O:Ord B bm gp ga gf gl base)
 (hown:w'.ownsRow base 145 3 (.slice (some ⟨g,0,none⟩) (l.length+1) cp) (l.length+1) (tcs l++[.string t.lit,.int .i64 t.far,.int .i64 t.len])) (hg:w.grownBy w' v.ownBlock) (hat:v.ownBlock=some g\/w.heap.size<=g) :
 PS (w'.setCell ⟨gl,0,none⟩ (.slice (some ⟨g,0,none⟩) (l.length+1) cp)) bm gp ga gf gl base s r a f (.slice (some ⟨g,0,none⟩) (l.length+1) cp) (l++[t])/\w'.cell? ⟨gl,0,none⟩=some v/\w'.frozen? ⟨gl,0,none⟩=false:=by
 have hs:=h.bs;obtain ⟨o1,o2,o3,o4,o5,o6⟩:=O;have hnv:∀ k,k<base->some k ≠ v.ownBlock:=fun k hk e=>by have:=(h.own.lt k e.symm).1;omega
 have hlt:∀ k,k<base->k<w.heap.size:=fun k hk=>by omega
 have hc:∀ k o,k<base->w'.cell? ⟨k,o,none⟩=w.cell? ⟨k,o,none⟩:=fun k o hk=>hg.cell_far _ (hlt k hk) (hnv k hk)
 have hf:∀ k o,k<base->w'.frozen? ⟨k,o,none⟩=w.frozen? ⟨k,o,none⟩:=fun k o hk=>hg.frozen_far _ (hlt k hk) (hnv k hk)
 obtain ⟨D,hm,ho,hsh,hr⟩:=h.past.map
 have hsh2:w.Shuns bm (fun k=>(Value.slice (some ⟨g,0,none⟩) (l.length+1) cp).ownBlock=some k):=hsh.reno ho (fun k hk=>by
  have e:g=k:=by simpa [Value.ownBlock] using hk
  subst e
  exact hat)
 have hp':PastAt w' base gp bm (fun k=>(Value.slice (some ⟨g,0,none⟩) (l.length+1) cp).ownBlock=some k) s r :=
  ⟨(hc gp 0 h.past.gb).trans h.past.c0,(hc gp 1 h.past.gb).trans h.past.c1,(hc gp 2 h.past.gb).trans h.past.c2,(hf gp 2 h.past.gb).trans h.past.f2,h.past.gb,h.past.ne,nt hs hg.size,D,hm,
   ho.kept hg (hnv bm (by omega)) (hsh.rowsOff (fun j hj=>hj)),hsh2.kept hg (hlt bm (by omega)) (hnv bm (by omega)),hr⟩
 have hg2:=Zei w' gl 0 (.slice (some ⟨g,0,none⟩) (l.length+1) cp);have hcl:w'.cell? ⟨gl,0,none⟩=some v:=(hc gl 0 o6).trans h.cl;refine ⟨⟨hp'.other hg2 (by omega) (by omega) o6,?_,?_,?_,?_,cS w' _ _ hcl,?_,?_⟩,hcl,(hf gl 0 o6).trans h.fl⟩
 ·rw [ZbA _ _ _ _ (by show gl ≠ ga;omega)];exact (hc ga 0 (by omega)).trans h.ca
 ·rw [World.frozen?_setCell];exact (hf ga 0 (by omega)).trans h.fa
 ·rw [ZbA _ _ _ _ (by show gl ≠ gf;omega)];exact (hc gf 0 (by omega)).trans h.cf
 ·rw [World.frozen?_setCell];exact (hf gf 0 (by omega)).trans h.ff
 ·rw [World.frozen?_setCell];exact (hf gl 0 o6).trans h.fl
 ·rw [Zal,List.length_append];exact hown.kept hg2 (.inr (fun e=>by have:=(hown.lt gl e).1;omega))
end
theorem ZcB {w:World} {g k:Nat} {c:Array Value} {t:TypeId} {fz:Nat × Nat} (h:w.heap[g]?=some (.cells c t fz)) (x:Value):(w.setCell ⟨g,k,none⟩ x).heap[g]?=some (.cells (c.setIfInBounds k x) t fz):=by
 show (w.heap.modify g _)[g]?=_;rw [Array.getElem?_modify,if_pos rfl,h];rfl
theorem ZcH {w:World} {g q k:Nat} (h:q ≠ g) (x:Value):(w.setCell ⟨q,k,none⟩ x).heap[g]?=w.heap[g]?:=by
 show (w.heap.modify q _)[g]?=_;rw [Array.getElem?_modify,if_neg h]
theorem BitsAt.laid {w:World} {gb g cap:Nat} {bs:List Bool} {b:Bool} {t:Int} (hgb:gb<w.heap.size) (hc:w.heap[gb]?=some (.cells #[.slice (some ⟨g,0,none⟩) (Cd.pk1 bs).length cap,.int .i64 (bs.length:Nat)] 177 (0,0)))
 (hg:gb+1<=g) (ho:(w.setCell ⟨g,bs.length / 8,none⟩ (.int .u8 t)).ownsRow (gb+1) 5 1 (.slice (some ⟨g,0,none⟩) (Cd.pk1 bs).length cap) (Cd.pk (bs++[b])).length (bcs (Cd.pk (bs++[b])))) :
 BitsAt (((w.setCell ⟨g,bs.length / 8,none⟩ (.int .u8 t)).drew).setCell ⟨gb,1,none⟩ (.int .i64 ((bs.length:Nat)+1:Int))) gb (bs++[b]):=by
 refine ⟨by simpa [World.setCell] using hgb,.slice (some ⟨g,0,none⟩) (Cd.pk1 bs).length cap,?_,?_⟩
 ·have h1:((w.setCell ⟨g,bs.length / 8,none⟩ (.int .u8 t)).drew).heap[gb]?=some (.cells #[.slice (some ⟨g,0,none⟩) (Cd.pk1 bs).length cap,.int .i64 (bs.length:Nat)] 177 (0,0)):=by
   show (w.setCell ⟨g,bs.length / 8,none⟩ (.int .u8 t)).heap[gb]?=_;rw [ZcH (by omega)];exact hc
  have h2:=ZcB (k:=1) h1 (.int .i64 ((bs.length:Nat)+1:Int));rw [h2];simp
 ·have ho2:((w.setCell ⟨g,bs.length / 8,none⟩ (.int .u8 t)).drew).ownsRow (gb+1) 5 1 (.slice (some ⟨g,0,none⟩) (Cd.pk1 bs).length cap) (Cd.pk (bs++[b])).length (bcs (Cd.pk (bs++[b]))):=ho;exact ownsRow_setCell_below ho2 (a:=⟨gb,1,none⟩) (by show gb<gb+1;omega) _
theorem Zgt {w:World} {gb:Nat} {bs:List Bool} {v:Value} (hgb:gb<w.heap.size) (hc:w.heap[gb]?=some (.cells #[v,.int .i64 (bs.length:Nat)] 177 (0,0)))
 (ho:w.ownsRow (gb+1) 5 1 v (Cd.pk1 bs).length (bcs (Cd.pk1 bs))) (b:Bool) :
 ∃ (g cap:Nat) (t x:Int),v=.slice (some ⟨g,0,none⟩) (bs.length / 8+1) cap/\g ≠ gb/\w.cell? ⟨gb,0,none⟩=some (.slice (some ⟨g,0,none⟩) (bs.length / 8+1) cap)/\w.cell? ⟨gb,1,none⟩=some (.int .i64 (bs.length:Nat)) ∧
  w.cell? ⟨g,bs.length / 8,none⟩=some (.int .u8 x)/\w.frozen? ⟨g,bs.length / 8,none⟩=false/\w.frozen? ⟨gb,1,none⟩=false/\0<=x/\x<=255 ∧
  Hid (bits BinOp.or IntKind.u8 x ((Cd.bv b:Nat)*2 ^ (7 - bs.length % 8) % 256)=t) ∧
  Hid (BitsAt (((w.setCell ⟨g,bs.length / 8,none⟩ (.int .u8 t)).drew).setCell ⟨gb,1,none⟩ (.int .i64 ((bs.length:Nat)+1:Int))) gb (bs++[b])) ∧
  Hid (∀ a:World,Below gb a w->Below gb a (((w.setCell ⟨g,bs.length / 8,none⟩ (.int .u8 t)).drew).setCell ⟨gb,1,none⟩ (.int .i64 ((bs.length:Nat)+1:Int)))):=by
 have hl:=Cd.Zia bs;obtain ⟨g,cap,rfl,hg,hgl,hcell,hfz,hset⟩:=Zju ho (by intro e;rw [e] at hl;simp at hl);have hn:bs.length=8*(bs.length / 8)+bs.length % 8:=by omega
 have hb:=Cd.Zis bs b (bs.length / 8) (bs.length % 8) (by omega) hn;have hlt:=Cd.ZqI bs (bs.length / 8);obtain ⟨hf1,hf2⟩:=Zmz (b:=b) (show bs.length % 8<8 by omega) hlt hb.2;have hx:=hcell (bs.length / 8) _ (Cd.ZqK bs (by omega));have e8:∀ n,n<256->(UInt8.ofNat n).toNat=n:=fun n h=>by simp;omega
 rw [e8 _ hlt] at hx;have hs:=hset (bs.length / 8) (UInt8.ofNat (Cd.byt bs (bs.length / 8)+Cd.bv b*2 ^ (7 - bs.length % 8))) (by omega);rw [<-Cd.ZsM bs b,e8 _ hf2] at hs;have hc':w.heap[gb]?=some (.cells #[.slice (some ⟨g,0,none⟩) (Cd.pk1 bs).length cap,.int .i64 (bs.length:Nat)] 177 (0,0)):=hc;refine ⟨g,cap,_,_,by rw [hl],by omega,?_,?_,hx,hfz _,by simp [World.frozen?,hc],by omega,by omega,hf1,BitsAt.laid hgb hc' hg hs,fun a ha=>?_⟩
 ·rw [cell_of_row w gb 0 _ _ _ hc,<-hl];rfl
 ·rw [cell_of_row w gb 1 _ _ _ hc];rfl
 ·exact ((ha.setCell (p:=⟨g,bs.length / 8,none⟩) (by show gb<=g;omega) _).drew).setCell (p:=⟨gb,1,none⟩) (nl _) _
theorem Zmw {a wr w1:World} {gb:Nat} {b2:List Bool} {v v':Value} {o:Obj} (hgb:gb<wr.heap.size) (hc:wr.heap[gb]?=some (.cells #[v,.int .i64 (b2.length:Nat)] 177 (0,0)))
 (ho:wr.ownsRow (gb+1) 5 1 v (Cd.pk b2).length (bcs (Cd.pk b2))) (hr:b2.length % 8=0) (hown:w1.ownsRow (gb+1) 5 1 v' ((Cd.pk b2).length+1) (bcs (Cd.pk b2)++[.int .u8 0])) (hg:(wr.alloc o).grownBy w1 v.ownBlock)
 (G:Below gb a wr) (b:Bool) :
 w1.cell? ⟨gb,0,none⟩=some v/\w1.frozen? ⟨gb,0,none⟩=false/\Hid (Below gb a (w1.setCell ⟨gb,0,none⟩ v'))/\∃ (g cap:Nat) (t x:Int),v'=.slice (some ⟨g,0,none⟩) (b2.length / 8+1) cap/\g ≠ gb/\(w1.setCell ⟨gb,0,none⟩ v').cell? ⟨gb,0,none⟩=some (.slice (some ⟨g,0,none⟩) (b2.length / 8+1) cap)/\(w1.setCell ⟨gb,0,none⟩ v').cell? ⟨gb,1,none⟩=some (.int .i64 (b2.length:Nat)) ∧
  (w1.setCell ⟨gb,0,none⟩ v').cell? ⟨g,b2.length / 8,none⟩=some (.int .u8 x)/\(w1.setCell ⟨gb,0,none⟩ v').frozen? ⟨g,b2.length / 8,none⟩=false/\(w1.setCell ⟨gb,0,none⟩ v').frozen? ⟨gb,1,none⟩=false/\0<=x/\x<=255 ∧
  Hid (bits BinOp.or IntKind.u8 x ((Cd.bv b:Nat)*2 ^ (7 - b2.length % 8) % 256)=t) ∧
  Hid (BitsAt ((((w1.setCell ⟨gb,0,none⟩ v').setCell ⟨g,b2.length / 8,none⟩ (.int .u8 t)).drew).setCell ⟨gb,1,none⟩ (.int .i64 ((b2.length:Nat)+1:Int))) gb (b2++[b])) ∧
  Hid (∀ a:World,Below gb a (w1.setCell ⟨gb,0,none⟩ v')->Below gb a ((((w1.setCell ⟨gb,0,none⟩ v').setCell ⟨g,b2.length / 8,none⟩ (.int .u8 t)).drew).setCell ⟨gb,1,none⟩ (.int .i64 ((b2.length:Nat)+1:Int)))):=by
 have hne:some gb ≠ v.ownBlock:=fun e=>by have:=(ho.lt gb e.symm).1;omega
 have hblk:w1.heap[gb]?=wr.heap[gb]?:=by
  rw [hg.block gb (by simp;omega) hne];exact ((bR wr.heap.size wr).alloc (nl _) o).block gb hgb
 have hc1:w1.heap[gb]?=some (.cells #[v,.int .i64 (b2.length:Nat)] 177 (0,0)):=hblk.trans hc;have hB1:Below gb a w1:=(G.alloc (nL hgb) o).grown hg (by simp;omega) (fun k hk=>by have:=(ho.lt k hk).1;omega);have hgb1:gb<w1.heap.size:=(aG.1 hc1).1;refine ⟨by rw [cell_of_row w1 gb 0 _ _ _ hc1];rfl,by simp [World.frozen?,hc1],hB1.setCell (p:=⟨gb,0,none⟩) (nl _) _,?_⟩;have hp1:Cd.pk1 b2=Cd.pk b2++[0]:=by unfold Cd.pk1;rw [if_pos hr]
 have hc2:=ZcB (k:=0) hc1 v';refine Zgt (w:=w1.setCell ⟨gb,0,none⟩ v') (v:=v') (by simpa [World.setCell] using hgb1) (by rw [hc2];rfl) ?_ b;refine ownsRow_setCell_below (a:=⟨gb,0,none⟩) ?_ (by show gb<gb+1;omega) _;rw [hp1,List.length_append,ZbO];exact hown
theorem ZdY (gb:Nat) (bs:List Bool) (word:Int) (n:Nat) (w:World) (hB:BitsAt w gb bs) (h0:0<=word) (h1:word<=1048576) (hn:n<=15) (hl:bs.length<=40000) :
 Calls Tryz.prog 149 #[.pointer (some ⟨gb,0,none⟩),.int .i64 word,.int .i64 (n:Int)] w fun e w'=>e=.returned (.tuple #[])/\Below gb w w'/\BitsAt w' gb (bs++Cd.wb word n):=by
 obtain ⟨i0,hi,hz0,hz1,hz2⟩:=info_parts Zca;have hn':(n:Int)<=15:=by omega
 go_enter Tryz.func149,Tryz.ntmps149
 go_wp2_with fail
 go_loopw [6] (fun i wr=>∃ (k:Nat) (K:Int) (b2:List Bool),i=.int .i64 K/\Hid (K=(k:Int) - 1)/\k<=n/\Hid (b2++Cd.wb word k=bs++Cd.wb word n)/\b2.length<=40015/\BitsAt wr gb b2/\Below gb w wr) (fun i _=>(intOf i+1).toNat)
 case atStart=>exact ⟨n,(n:Int) - 1,bs,by go_num,rfl,nl _,rfl,by omega,hB,bR _ _⟩
 case round =>
  clear hB;obtain ⟨k,K,b2,rfl,HK,hk,hE,hb2,hB,G⟩:=hrel
  cases k with
  | zero =>
   obtain rfl:K=-1:=by have:=HK.out;omega
   have hE':b2=bs++Cd.wb word n:=by have:=hE.out;rwa [Cd.wb,List.append_nil] at this
   subst hE';go_wp2_with fail
   go_end0
   exact ⟨rfl,G,hB⟩
  | succ k =>
   have hKk:K=k:=by have:=HK.out;omega
   have hK0:0<=K:=by omega
   have hK1:K<=14:=by omega
   have dK:decide (0<=K)=true:=by simpa using hK0
   have HE2:Hid ((b2++[decide (word / 2 ^ k % 2=1)])++Cd.wb word k=bs++Cd.wb word n):=by
    have:=hE.out;rw [Cd.wb] at this;show _=_;rw [<-this,List.append_assoc];rfl
   have HBF:bits BinOp.and IntKind.i64 (word / 2 ^ K.toNat) 1 % 256=(Cd.bv (decide (word / 2 ^ k % 2=1)):Nat):=Zqi h0 h1 hKk;obtain ⟨hgb,v,hc,ho⟩:=hB;have HK1:Hid (K=(k:Nat)):=hKk;have Hk:Hid (k<=n):=by show _<=_;omega
   obtain ⟨N,hN⟩:∃ N:Nat,b2.length=N:=⟨_,rfl⟩
   have hN8:(N:Int).tmod 8=(N % 8:Nat):=by rw [Int.tmod_eq_emod_of_nonneg (by omega)];omega
   have hN9:(N:Int).tdiv 8=(N / 8:Nat):=by rw [Int.tdiv_eq_ediv_of_nonneg (by omega)];omega
   clear hKk HK hE;by_cases hr:b2.length % 8=0
   ·have d0:(((N % 8:Nat):Int) == 0)=true:=by simp;omega
    have hlen:(Cd.pk b2).length<=6000:=by rw [Cd.ZbY];omega
    have HNl:Hid (b2.length=N):=hN;have hNb:N<=40015:=by omega
    have hv0:wr.cell? ⟨gb,0,none⟩=some v:=by rw [cell_of_row wr gb 0 _ _ _ hc];rfl
    have hv1:wr.cell? ⟨gb,1,none⟩=some (.int .i64 (N:Nat)):=by rw [cell_of_row wr gb 1 _ _ _ hc,<-hN];rfl
    have hle:gb+1<=(wr.alloc (.cells #[.int .u8 0] 5)).heap.size:=by simp;omega
    have Hc:Hid (wr.heap[gb]?=some (.cells #[v,.int .i64 (b2.length:Nat)] 177 (0,0))):=hc;have Hr:Hid (b2.length % 8=0):=hr;clear hN hr hc;go_wp2_with (at_builtin;go_must (refine wpList_append_own _ rfl _ _ 77 rfl (gb+1) 5 i0 (.int .u8 0) 1 1 U77 hi hz0 hz1 hz2 rfl (by decide) _ _ _ rfl (ho.alloc _) ⟨wr.heap.size,0,none⟩ 1 1 [.int .u8 0] rfl rfl (cell_one_new _ _ _) (Zdm _) (ZaJ (by omega)) (by omega) hle ?_;intro v' w1 hown' hgrow _;obtain ⟨y1,y2,y3,g,cap,t,x,rfl,q1,q2,q3,q4,q5,q6,q7,q8,Q1,Q2,Q3⟩:=Zmw hgb Hc.out ho Hr.out hown' hgrow G (decide (word / 2 ^ k % 2=1));have HB3:=Q3.out w y3.out;rw [HNl.out] at q2 q3 q4 q5 q6 Q1 Q2 HB3))
    rw [HNl.out];have HQ2:=Q2;have HQ1:=Q1.out;generalize w1.setCell ⟨gb,0,none⟩ (.slice (some ⟨g,0,none⟩) (N / 8+1) cap)=wq at *
    have z1:((wq.setCell ⟨g,N / 8,none⟩ (.int .u8 t)).drew).cell? ⟨gb,1,none⟩=some (.int .i64 (N:Nat)):=by
     show (wq.setCell ⟨g,N / 8,none⟩ (.int .u8 t)).cell? ⟨gb,1,none⟩=_;rw [ZbA _ _ _ _ (by exact q1)];exact q3
    have z2:((wq.setCell ⟨g,N / 8,none⟩ (.int .u8 t)).drew).frozen? ⟨gb,1,none⟩=false:=by
     show (wq.setCell ⟨g,N / 8,none⟩ (.int .u8 t)).frozen? ⟨gb,1,none⟩=_;rw [World.frozen?_setCell];exact q6
    have HLn:Hid (b2.length+1<=40015):=by
     have:=congrArg List.length HE2.out;simp [Cd.Zdq] at this;show _<=_;omega
    generalize Cd.bv (decide (word / 2 ^ k % 2=1))=bb at *;clear Q1 Q2 Q3 y1 y2 y3 hv0 hv1 ho hown' hgrow hlen hle;go_wp2_with fail
    go_region
    go_wp2_with fail
    go_roundw
    case rel=>exact ⟨k,K - 1,b2++[decide (word / 2 ^ k % 2=1)],by go_num,by have:=HK1.out;show _=_;omega,Hk.out,HE2,by have:=HLn.out;simp;omega,HQ2.out,HB3⟩
    case measure=>simp [intOf];omega
   ·have hp1:Cd.pk1 b2=Cd.pk b2:=by unfold Cd.pk1;rw [if_neg hr]
    rw [<-hp1] at ho;obtain ⟨g,cap,t,x,rfl,q1,q2,q3,q4,q5,q6,q7,q8,Q1,Q2,Q3⟩:=Zgt hgb hc ho (decide (word / 2 ^ k % 2=1));clear hp1 ho hc;have HB3:=Q3.out w G;rw [hN] at q2 q3 q4 q5 Q1 Q2 HB3;have HQ2:Hid (BitsAt (((wr.setCell ⟨g,N / 8,none⟩ (.int .u8 t)).drew).setCell ⟨gb,1,none⟩ (.int .i64 ((N:Nat)+1:Int))) gb (b2++[decide (word / 2 ^ k % 2=1)])):=Q2.out;have d0:(((N % 8:Nat):Int) == 0)=false:=by simp;omega
    have HLn:Hid (b2.length+1<=40015):=by
     have:=congrArg List.length HE2.out;simp [Cd.Zdq] at this;show _<=_;omega
    have HQ1:=Q1.out;generalize Cd.bv (decide (word / 2 ^ k % 2=1))=bb at *;clear Q1 Q2 Q3;have hNb:N<=40015:=by omega
    have HNl:Hid (b2.length=N):=hN;clear hN hr
    have z1:((wr.setCell ⟨g,N / 8,none⟩ (.int .u8 t)).drew).cell? ⟨gb,1,none⟩=some (.int .i64 (N:Nat)):=by
     show (wr.setCell ⟨g,N / 8,none⟩ (.int .u8 t)).cell? ⟨gb,1,none⟩=_;rw [ZbA _ _ _ _ (by exact q1)];exact q3
    have z2:((wr.setCell ⟨g,N / 8,none⟩ (.int .u8 t)).drew).frozen? ⟨gb,1,none⟩=false:=by
     show (wr.setCell ⟨g,N / 8,none⟩ (.int .u8 t)).frozen? ⟨gb,1,none⟩=_;rw [World.frozen?_setCell];exact q6
    go_wp2_with fail
    go_region
    go_wp2_with fail
    go_roundw
    case rel=>exact ⟨k,K - 1,b2++[decide (word / 2 ^ k % 2=1)],by go_num,by have:=HK1.out;show _=_;omega,Hk.out,HE2,by have:=HLn.out;simp;omega,HQ2.out,HB3⟩
    case measure=>simp [intOf];omega
namespace Cd
theorem wI_v (f:Nat->Int) (n:Int) (x:Int × (Nat->Int)) (M:Int) (h0:0<=x.1) (h1:x.1+16<=M) (hx:∀ i,0<=x.2 i/\x.2 i<=M):∀ k,k<=16->∀ i,0<=(wI f n x k).2 i/\(wI f n x k).2 i<=M:=by
 intro k
 induction k with
 | zero=>intro _;exact hx
 | succ k ih =>
  intro hk i;have hb:=wI_b f n x k;have:=ih (by omega) i;rw [wI];split
  ·simp only;unfold upd;split
   ·omega
   ·exact this
  ·exact this
theorem wO_v (f:Nat->Int):∀ n,n<=15->∀ i,0<=(wO f n).2 i/\(wO f n).2 i<=1048576:=by
 intro n
 induction n with
 | zero=>intro _ i;simp [wO]
 | succ n ih =>
  intro hn;have hb:=wO_b f n;have h2:(2:Int) ^ n<=2 ^ 14:=ZbL (by omega);rw [wO];exact wI_v f _ ((wO f n).1*2,(wO f n).2) 1048576 (show 0<=(wO f n).1*2 by omega) (show (wO f n).1*2+16<=1048576 by omega) (ih (by omega)) 16 (nl _)
theorem Znm (f:Nat->Int) (i:Nat):0<=wds f i/\wds f i<=1048576:=wO_v f 15 (Nat.le_refl _) i
def cw (f:Nat->Int) (s:Nat):List Bool:=wb (wds f s) (f s).toNat
def at8 (s:ByteArray) (k:Nat):Nat:=(s.data.toList[k]?.getD 0).toNat
theorem ZaC (s:ByteArray) (k:Nat):at8 s k<256:=(s.data.toList[k]?.getD 0).toNat_lt
def wrK (f:Nat->Int) (s:ByteArray):Nat->Option (List Bool)
 | 0=>some []
 | k+1=>match wrK f s k with
  | none=>none
  | some bs=>if f (at8 s k / 16)=0\/f (at8 s k % 16)=0 then none else some (bs++cw f (at8 s k / 16)++cw f (at8 s k % 16))
theorem ZpH {f:Nat->Int} {s:ByteArray} {k:Nat} (h:wrK f s k=none):∀ j,wrK f s (k+j)=none:=by
 intro j
 induction j with
 | zero=>exact h
 | succ j ih=>rw [<-Nat.add_assoc,wrK,ih]
theorem ZfN {f:Nat->Int} {s:ByteArray} {k:Nat} {bs:List Bool} (h:wrK f s k=some bs) (h1:¬ (f (at8 s k / 16)=0\/f (at8 s k % 16)=0)):wrK f s (k+1)=some (bs++cw f (at8 s k / 16)++cw f (at8 s k % 16)):=by
 rw [wrK,h];simp only;rw [if_neg h1]
theorem Zjj {f:Nat->Int} {s:ByteArray} {k n:Nat} {bs:List Bool} (hk:k<n) (h:wrK f s k=some bs) (h1:f (at8 s k / 16)=0\/f (at8 s k % 16)=0):wrK f s n=none:=by
 have:wrK f s (k+1)=none:=by rw [wrK,h];simp only;rw [if_pos h1]
 have h2:=ZpH this (n - (k+1))
 rwa [show k+1+(n - (k+1))=n by omega] at h2
theorem Zhn {f:Nat->Int} (h:InR f 15 16) {i:Nat} (hi:i<16):(cw f i).length<=15:=by
 rw [cw,Zdq];have:=h i hi;omega
theorem ZdT {f:Nat->Int} {s:ByteArray} (h:InR f 15 16):∀ k bs,wrK f s k=some bs->bs.length<=30*k:=by
 intro k
 induction k with
 | zero=>intro bs h;simp [wrK] at h;subst h;simp
 | succ k ih =>
  intro bs hb;rw [wrK] at hb;have hlt:=ZaC s k
  cases hq:wrK f s k with
  | none=>rw [hq] at hb;simp at hb
  | some b2 =>
   rw [hq] at hb;simp only at hb;split at hb
   ·simp at hb
   ·simp only [Option.some.injEq] at hb;subst hb;have h1:=ih b2 hq;have h2:=Zhn h (i:=at8 s k / 16) (by omega);have h3:=Zhn h (i:=at8 s k % 16) (by omega);simp only [List.length_append];omega
def wrt (f:Nat->Int) (s:ByteArray):ByteArray × Int :=
 if chk f ≠ 0 then (⟨#[]⟩,chk f) else if 1024<s.size then (⟨#[]⟩,2) else match wrK f s s.size with | none=>(⟨#[]⟩,5) | some bs=>(⟨(pk bs).toArray⟩,0)
end Cd
theorem BitsAt.below {w w':World} {gb:Nat} {bs:List Bool} (h:BitsAt w gb bs) (hb:Below w.heap.size w w'):BitsAt w' gb bs:=by
 obtain ⟨h1,v,h2,h3⟩:=h;refine ⟨nT h1 hb.size,v,by rw [hb.block gb h1];exact h2,?_⟩;refine ⟨h3.1,?_⟩;rcases h3.2 with h | ⟨g,cap,cur,rfl,e1,e2,e3⟩
 ·exact .inl h
 ·exact .inr ⟨g,cap,cur,rfl,e1,by rw [hb.block g (Array.getElem?_eq_some_iff.1 e2).1];exact e2,e3⟩
theorem ZpA (w:World):BitsAt (w.alloc (.cells #[.slice none 0 0,.int .i64 0] 177)) w.heap.size [] :=
 ⟨by simp,.slice none 0 0,heap_alloc_last w _,World.ownsRow_nil _ _ _ _⟩
theorem RowAt.keep {B g:Nat} {w w':World} {f:Nat->Int} (h:RowAt w g f) (hb:Below B w w') (hg:g<B):RowAt w' g f:=⟨Nat.lt_of_lt_of_le h.1 hb.size,by rw [hb.block g hg];exact h.2⟩
theorem ZgP (f:Nat->Int) (s:ByteArray) (w:World) (h0:Cd.chk f=0) (hs:s.size<=1024) :
 Calls Tryz.prog 122 #[.agg (arr f),.string s] w fun e w'=>e=.returned (.tuple #[.string (Cd.wrt f s).1,.int .i64 (Cd.wrt f s).2])/\Below w.heap.size w w':=by
 have hck:=fun w=>ZZ f w
 rw [h0] at hck;have hwd:=fun w=>Zcz f w
 have hin:=Zb f;have hinw:=Zb (Cd.wds f);have hR:Hid (Cd.InR f 15 16):=(Cd.Ze h0).1;have h0':Hid (Cd.chk f=0):=h0;have hs':(s.size:Int)<=1024:=by omega
 have ds:decide (1024<(s.size:Int))=false:=by simp;omega
 have R1:=RowAt.new w f;have HB:Below w.heap.size w (w.alloc (.cells (arr f) 127)):=(bR _ _).alloc (nl _) _
 obtain ⟨r1,r2,hr⟩:∃ r1 r2,Cd.wrt f s=(r1,r2):=⟨_,_,rfl⟩
 rw [hr];have Hr:Hid (Cd.wrt f s=(r1,r2)):=hr;clear hr h0;go_enter Tryz.func122,Tryz.ntmps122
 go_wp2_with (refine wpList_load_row rfl 127 _ rfl w.heap.size rfl 127 (arr f) (0,0) _ R1.2 U127 rfl hin ?_)
 refine (hck _).mono ?_;rintro e w1 ⟨rfl,G1⟩;have S1:=R1.below G1;have B1:=bch HB G1 (nl _);clear R1 HB G1 hck;go_wp2_with (refine wpList_load_row rfl 127 _ rfl w.heap.size rfl 127 (arr f) (0,0) _ S1.2 U127 rfl hin ?_)
 refine (hwd _).mono ?_;rintro e w2 ⟨rfl,G2⟩;have T1:=S1.below G2;have B2:=bch B1 G2 (nl _);clear S1 B1 G2 hwd;go_wp2_with (refine wpList_store_row rfl 127 _ _ rfl w2.heap.size (arr (Cd.wds f)) rfl rfl 127 _ (heap_alloc_last w2 _) hinw rfl (ZV _) ?_;rw [World.setRow_alloc_new])
 have T7:=(RowAt.new w2 (Cd.wds f)).alloc (.cells #[.slice none 0 0,.int .i64 0] 177);have T2:=(T1.alloc (.cells (arr (Cd.wds f)) 127)).alloc (.cells #[.slice none 0 0,.int .i64 0] 177);have TB:=ZpA (w2.alloc (.cells (arr (Cd.wds f)) 127));have B3:Below w.heap.size w ((w2.alloc (.cells (arr (Cd.wds f)) 127)).alloc (.cells #[.slice none 0 0,.int .i64 0] 177)):=(B2.alloc (nL T1.1) _).alloc (by have:=T1.1;simp;omega) _;have hsz9:(w2.alloc (.cells (arr (Cd.wds f)) 127)).heap.size=w2.heap.size+1:=by simp
 rw [hsz9] at TB
 have hq:Hid (w.heap.size<w2.heap.size/\w2.heap.size<w2.heap.size+1):=⟨T1.1,by omega⟩
 clear hsz9 T1 B2;generalize (w2.alloc (.cells (arr (Cd.wds f)) 127)).alloc (.cells #[.slice none 0 0,.int .i64 0] 177)=w3 at *;generalize w2.heap.size+1=gb at *;generalize w2.heap.size=g7 at *;go_loopw [24] (fun i wr=>∃ (k:Nat) (bs:List Bool),k<=s.size/\i=.int .i64 k/\Hid (Cd.wrK f s k=some bs)/\RowAt wr w.heap.size f/\RowAt wr g7 (Cd.wds f)/\BitsAt wr gb bs/\Below w.heap.size w wr) (fun i _=>s.size - (intOf i).toNat)
 case atStart=>exact ⟨0,[],by omega,rfl,rfl,T2,T7,TB,B3⟩
 case round =>
  clear T2 T7 TB B3;obtain ⟨k,bs,hk,rfl,hW,T2,T7,TB,B3⟩:=hrel;by_cases hlt:k<s.size
  ·have hk1:decide ((k:Int)<(s.size:Int))=true:=by simp;omega
   have hk2:decide (k<s.size)=true:=by simp;omega
   obtain ⟨x,hx⟩:∃ x:Int,(s[k].toNat:Int)=x:=⟨_,rfl⟩
   have hA:Cd.at8 s k=s[k].toNat:=by unfold Cd.at8;rw [Nm.ZL s k hlt];rfl
   have hA2:=Cd.ZaC s k;have hx0:0<=x:=by omega
   have hx1:x<=255:=by omega
   obtain ⟨H,hH⟩:∃ H,Cd.at8 s k / 16=H:=⟨_,rfl⟩
   obtain ⟨L,hL⟩:∃ L,Cd.at8 s k % 16=L:=⟨_,rfl⟩
   have e1:x / 16=(H:Int):=by omega
   have e2:x % 16=(L:Int):=by omega
   have e3:x.tdiv 16=(H:Int):=by rw [Int.tdiv_eq_ediv_of_nonneg hx0];exact e1
   have e4:x.tmod 16=(L:Int):=by rw [Int.tmod_eq_emod_of_nonneg hx0];exact e2
   have hH1:H<16:=by omega
   have hL1:L<16:=by omega
   have hH2:(H:Int)<16:=by omega
   have hL2:(L:Int)<16:=by omega
   have HN:Hid (¬ (f H=0\/f L=0)->Cd.wrK f s (k+1)=some (bs++Cd.cw f H++Cd.cw f L)):=fun h=>by have:=Cd.ZfN hW.out (by rw [hH,hL];exact h);rw [hH,hL] at this;exact this
   have HS:Hid (f H=0\/f L=0->r1=⟨#[]⟩/\r2=5):=fun h=>by
    have h9:Cd.wrt f s=(⟨#[]⟩,5):=by
     rw [Cd.wrt,if_neg (fun h=>h h0'.out),if_neg (by omega),Cd.Zjj hlt hW.out (by rw [hH,hL];exact h)]
    have h8:=Hr.out.symm.trans h9;simpa using h8
   have Hlen:Hid (bs.length<=30720):=by have:=Cd.ZdT hR.out k bs hW.out;show _<=_;omega
   clear hA hA2 hH hL e1 e2;have c1:=T2.cell H hH1;have c2:=T2.cell L hL1;have c3:=T7.cell H hH1;have c4:=T7.cell L hL1;have hfH:=hR.out H hH1;have hfL:=hR.out L hL1;have hwH:=Cd.Znm f H;have hwL:=Cd.Znm f L;by_cases hz:f H=0
   ·obtain ⟨rfl,rfl⟩:=HS.out (.inl hz);rw [hz] at c1;clear hz c2 c3 c4 hfH hfL hwH hwL;go_wp2_with fail
    go_quiet (fail)
    go_wp2_with fail
    go_ret2
    exact ⟨rfl,below_drewN B3 _⟩
   ·have d1:(f H == 0)=false:=by simpa using hz
    by_cases hy:f L=0
    ·obtain ⟨rfl,rfl⟩:=HS.out (.inr hy);rw [hy] at c2;clear hz hy c3 c4 hfH hfL hwH hwL;go_wp2_with fail
     go_quiet (fail)
     go_wp2_with fail
     go_ret2
     exact ⟨rfl,below_drewN B3 _⟩
    ·have d2:(f L == 0)=false:=by simpa using hy
     have HNN:Hid (Cd.wrK f s (k+1)=some (bs++Cd.cw f H++Cd.cw f L)):=HN.out (fun h=>h.elim hz hy);clear hz hy HS HN;go_wp2_with fail
     go_quiet (fail)
     go_wp2_with fail
     have U2:=T2.below (below_drewN (bR wr.heap.size wr) nq);have U7:=T7.below (below_drewN (bR wr.heap.size wr) nq);have UB:=TB.below (below_drewN (bR wr.heap.size wr) nq);have B4:=below_drewN B3 nq;clear T2 T7 TB B3 c1 c2 c3 c4;generalize wr.drewN nq=wq at *;have c1:=U2.cell H hH1;have c3:=U7.cell H hH1
     have hpH:∀ w,BitsAt w gb bs->Calls Tryz.prog 149 #[.pointer (some ⟨gb,0,none⟩),.int .i64 (Cd.wds f H),.int .i64 (f H)] w fun e w'=>e=.returned (.tuple #[])/\Below gb w w'/\BitsAt w' gb (bs++Cd.cw f H):=fun w h=>by
      have h9:=ZdY gb bs (Cd.wds f H) (f H).toNat w h hwH.1 hwH.2 (by omega) (by have:=Hlen.out;omega);rw [Int.toNat_of_nonneg hfH.1] at h9;exact h9
     have hpL:∀ w,BitsAt w gb (bs++Cd.cw f H)->Calls Tryz.prog 149 #[.pointer (some ⟨gb,0,none⟩),.int .i64 (Cd.wds f L),.int .i64 (f L)] w fun e w'=>e=.returned (.tuple #[])/\Below gb w w'/\BitsAt w' gb (bs++Cd.cw f H++Cd.cw f L):=fun w h=>by
      have h9:=ZdY gb (bs++Cd.cw f H) (Cd.wds f L) (f L).toNat w h hwL.1 hwL.2 (by omega) (by have:=Hlen.out;have:=Cd.Zhn hR.out hH1;simp;omega);rw [Int.toNat_of_nonneg hfL.1] at h9;exact h9
     generalize Cd.cw f H=CH at *;generalize Cd.cw f L=CL at *;generalize f H=fH at *
     have hcL:∀ w',RowAt w' w.heap.size f->RowAt w' g7 (Cd.wds f)->w'.cell? ⟨w.heap.size,L,none⟩=some (.int .i64 (f L))/\w'.cell? ⟨g7,L,none⟩=some (.int .i64 (Cd.wds f L)):=fun w' r1 r2=>⟨r1.cell L hL1,r2.cell L hL1⟩
     generalize Cd.wds f H=wH at *;have HhL:Hid (∀ w',RowAt w' w.heap.size f->RowAt w' g7 (Cd.wds f)->w'.cell? ⟨w.heap.size,L,none⟩=some (.int .i64 (f L))/\w'.cell? ⟨g7,L,none⟩=some (.int .i64 (Cd.wds f L))):=hcL;clear hcL hwH hfH hwL hfL;have hq7:g7<gb:=hq.out.2;have hqN:w.heap.size<gb:=Nat.lt_trans hq.out.1 hq.out.2;go_region_held3 (fun w'=>w'.cell? ⟨g7,H,none⟩=some (.int .i64 wH)/\w'.cell? ⟨w.heap.size,H,none⟩=some (.int .i64 fH)) (first | (go_keep;done) | (exact ⟨(G4.cell (by exact hq7)).trans c3,(G4.cell (by exact hqN)).trans c1⟩) | (exact ⟨by assumption,by assumption⟩)) (first | (go_at_call 149;refine (hpH _ (by exact UB)).mono ?_;rintro e w4 ⟨rfl,G4,Z4⟩))
     have G4':Below gb wq w4:=((bR gb wq).drew).trans G4;have V2:=U2.keep G4' hqN;have V7:=U7.keep G4' hq7;have B5:=B4.trans (G4'.mono (nL hqN));clear U2 U7 UB B4 G4 G4' c1 c3 hpH;obtain ⟨c2,c4⟩:=HhL.out w4 V2 V7;generalize f L=fL at *;generalize Cd.wds f L=wL at *;go_wp2_with fail
     go_region_held3 (fun w'=>w'.cell? ⟨g7,L,none⟩=some (.int .i64 wL)/\w'.cell? ⟨w.heap.size,L,none⟩=some (.int .i64 fL)) (first | (go_keep;done) | (exact ⟨(G6.cell (by exact hq7)).trans c4,(G6.cell (by exact hqN)).trans c2⟩) | (exact ⟨by assumption,by assumption⟩)) (first | (go_at_call 149;refine (hpL _ (by exact Z4)).mono ?_;rintro e w6 ⟨rfl,G6,Z6⟩))
     have G6':Below gb w4 w6:=((bR gb w4).drew).trans G6;have X2:=V2.keep G6' hqN;have X7:=V7.keep G6' hq7;have B6:=B5.trans (G6'.mono (nL hqN));clear V2 V7 B5 G6 G6' c2 c4 hpL;go_wp2_with fail
     go_roundw
     case rel=>exact ⟨k+1,_,by omega,by go_num,HNN,X2,X7,Z6,B6⟩
     case measure=>simp [intOf];omega
  ·obtain rfl:k=s.size:=by omega
   have h9:Cd.wrt f s=(⟨(Cd.pk bs).toArray⟩,0):=by
    rw [Cd.wrt,if_neg (fun h=>h h0'.out),if_neg (by omega),hW.out]
   have h8:=Hr.out.symm.trans h9;simp only [Prod.mk.injEq] at h8;obtain ⟨rfl,rfl⟩:=h8;obtain ⟨hgb,v,hc,ho⟩:=TB;have hcv:=ZbQ (l:=Cd.pk bs) ho;have hv0:wr.cell? ⟨gb,0,none⟩=some v:=by rw [cell_of_row wr gb 0 _ _ _ hc];rfl
   clear h9 ho hc;go_wp2_with fail
   go_ret2
   exact ⟨rfl,B3⟩
theorem ZfD (f:Nat->Int) (s:ByteArray) (w:World) (hs0:s.size<=140737488355328) :
 Calls Tryz.prog 122 #[.agg (arr f),.string s] w fun e w'=>e=.returned (.tuple #[.string (Cd.wrt f s).1,.int .i64 (Cd.wrt f s).2])/\Below w.heap.size w w':=by
 by_cases h0:Cd.chk f=0
 ·by_cases hs:s.size<=1024
  ·exact ZgP f s w h0 hs
  ·have h9:Cd.wrt f s=(⟨#[]⟩,2):=by rw [Cd.wrt,if_neg (fun h=>h h0),if_pos (by omega)]
   rw [h9];have hck:=fun w=>ZZ f w
   rw [h0] at hck;have hin:=Zb f;have hs':1024<(s.size:Int):=by omega
   have ds:decide (1024<(s.size:Int))=true:=by simp;omega
   have R1:=RowAt.new w f;have HB:Below w.heap.size w (w.alloc (.cells (arr f) 127)):=(bR _ _).alloc (nl _) _;clear h9 hs h0;go_enter Tryz.func122,Tryz.ntmps122
   go_wp2_with (refine wpList_load_row rfl 127 _ rfl w.heap.size rfl 127 (arr f) (0,0) _ R1.2 U127 rfl hin ?_)
   refine (hck _).mono ?_;rintro e w1 ⟨rfl,G1⟩;have B1:=bch HB G1 (nl _);clear R1 HB G1 hck;go_wp2_with fail
   go_ret2
   exact ⟨rfl,B1⟩
 ·have h9:Cd.wrt f s=(⟨#[]⟩,Cd.chk f):=by rw [Cd.wrt,if_pos h0]
  rw [h9];have hck:=fun w=>ZZ f w
  have hin:=Zb f;have R1:=RowAt.new w f;have HB:Below w.heap.size w (w.alloc (.cells (arr f) 127)):=(bR _ _).alloc (nl _) _;generalize Cd.chk f=E at *;have d0:(E != 0)=true:=by simpa using h0
  clear h9 h0;go_enter Tryz.func122,Tryz.ntmps122
  go_wp2_with (refine wpList_load_row rfl 127 _ rfl w.heap.size rfl 127 (arr f) (0,0) _ R1.2 U127 rfl hin ?_)
  refine (hck _).mono ?_;rintro e w1 ⟨rfl,G1⟩;have B1:=bch HB G1 (nl _);clear R1 HB G1 hck;go_wp2_with fail
  go_ret2
  exact ⟨rfl,B1⟩
end Go.Proofs.YtbjbjbpgmojcbacGreat
