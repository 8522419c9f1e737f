/-
  Parts of the proof.
-/
import Derived.Test.YticfnglebbakkaaGreatDoorAgainProofB1
import Derived.Test.YticfnglebbakkaaGreatDoorAgainProofB17
set_option maxRecDepth 100000
set_option maxHeartbeats 8000000
namespace Go.Proofs.YticfnglebbakkaaGreatDoor
open Go Go.RowKit
attribute [local go_sem] aV
def eX(o:List (Nat × Nat)):List Value:=o.flatMap fun x=>[.int .i64 (x.1:Int),.int .i64 (x.2:Int)]
theorem lL(o:List (Nat × Nat)):(eX o).length=o.length * 2:=by
 induction o with
 | nil=>rfl
 | cons x o ih=>
  have:eX (x :: o)=[.int .i64 (x.1:Int),.int .i64 (x.2:Int)] ++ eX o:=rfl
  rw [this,List.length_append,ih,List.length_cons];simp;omega
theorem lM(a b:List (Nat × Nat)):eX (a ++ b)=eX a ++ eX b:=by simp [eX]
theorem mD:∀ (o:List (Nat × Nat)) (i:Nat) (x:Nat × Nat),o[i]?=some x->(eX o)[i * 2]?=some (.int .i64 (x.1:Int))/\(eX o)[i * 2+1]?=some (.int .i64 (x.2:Int))
 | [],i,x,h=>by simp at h
 | y :: o,0,x,h=>by simp at h;subst h;exact⟨rfl,rfl⟩
 | y :: o,i+1,x,h=>by
  have:eX (y :: o)=.int .i64 (y.1:Int) :: .int .i64 (y.2:Int) :: eX o:=rfl
  rw [this,show (i+1) * 2=i * 2+1+1 by omega]
  exact mD o i x (by simpa using h)
theorem vJ:(Tryz.prog.info? 125).map (fun i=>(i.zero,i.size,i.bytes))=some (some (.agg #[.int .i64 0,.int .i64 0]),2,16):=by kernel_rfl
theorem vD:Tryz.prog.underlying 118=some (.slice 125):=by kernel_rfl
structure GB(w:World)(b g:Nat)(ov:Value)(E:List Nat):Prop where
 blk:∃ cs,w.heap[b]?=some (.cells cs 121 (0,0))
 c0:w.cell? ⟨b,0,none⟩=some (.int .i64 (g:Int))
 c1:w.cell? ⟨b,1,none⟩=some ov
 ce:∀ i,i < 31->w.cell? ⟨b,2+i,none⟩=some (.bool (decide (i∈E)))
theorem GB.lt{w:World}{b g:Nat}{ov:Value}{E:List Nat}(h:GB w b g ov E):b < w.heap.size:=by obtain⟨cs,q⟩:=h.blk;exact aA q
theorem GB.frz{w:World}{b g:Nat}{ov:Value}{E:List Nat}(h:GB w b g ov E)(i:Nat):w.frozen? ⟨b,i,none⟩=false:=by obtain⟨cs,q⟩:=h.blk;exact aQ q i
theorem GB.fr{w w':World}{b g:Nat}{ov:Value}{E:List Nat}{S:Nat->Prop}(h:GB w b g ov E)(hf:Fr S w w')(hS:¬ S b):GB w' b g ov E:=by
 obtain⟨cs,q⟩:=h.blk
 have q':=(hf.block _ (aA q) hS).trans q
 have key:∀ i v,w.cell? ⟨b,i,none⟩=some v->w'.cell? ⟨b,i,none⟩=some v:=fun i v hv=>by
  have e:w'.cell? ⟨b,i,none⟩=w.cell? ⟨b,i,none⟩:=by unfold World.cell?;simp only [q,q']
  rw [e];exact hv
 exact⟨⟨cs,q'⟩,key _ _ h.c0,key _ _ h.c1,fun i hi=>key _ _ (h.ce i hi)⟩
theorem GB.kept{w w':World}{b g:Nat}{ov:Value}{E:List Nat}(h:GB w b g ov E)(hb:Below w.heap.size w w'):GB w' b g ov E:=h.fr (S:=fun _=>False) (Fr.of_below hb) (fun q=>q)
theorem GB.set0{w:World}{b g:Nat}{ov:Value}{E:List Nat}(h:GB w b g ov E)(g':Nat):GB (w.setCell ⟨b,0,none⟩ (.int .i64 (g':Int))) b g' ov E:=
 ⟨bV h.blk _ _,World.cell?_setCell_same _ _ _ h.c0,aF h.c1 (by omega),fun i hi=>aF (h.ce i hi) (by omega)⟩
theorem GB.set1{w:World}{b g:Nat}{ov:Value}{E:List Nat}(h:GB w b g ov E)(ov':Value):GB (w.setCell ⟨b,1,none⟩ ov') b g ov' E:=
 ⟨bV h.blk _ _,aF h.c0 (by omega),World.cell?_setCell_same _ _ _ h.c1,fun i hi=>aF (h.ce i hi) (by omega)⟩
theorem GB.sete{w:World}{b g n:Nat}{ov:Value}{E:List Nat}(h:GB w b g ov E)(hn:n < 31):GB (w.setCell ⟨b,2+n,none⟩ (.bool true)) b g ov (n :: E):=
 ⟨bV h.blk _ _,aF h.c0 (by omega),aF h.c1 (by omega),fun i hi=>by
  by_cases e:i=n
  ·subst e
   rw [World.cell?_setCell_same _ _ _ (h.ce i hi)]
   simp
  ·rw [aF (h.ce i hi) (by omega)]
   have:decide (i∈n :: E)=decide (i∈E):=by simp [e]
   rw [this]⟩
structure GX(lo:Nat)(w:World)(b:Nat)(s:GS):Prop where
 gb:∃ q c,GB w b s.g (.slice q s.o.length c) s.e/\w.ownsRow lo 125 2 (.slice q s.o.length c) s.o.length (eX s.o)
 hb:lo<=b
 hg:s.g<=30
 ho:∀ x∈s.o,x.1<=30
 hn:s.o.length<=30
theorem GX.kept{lo b:Nat}{w w':World}{s:GS}(h:GX lo w b s)(hb:Below w.heap.size w w'):GX lo w' b s:=by
 obtain⟨q,c,h1,h2⟩:=h.gb
 exact⟨⟨q,c,h1.kept hb,aX h2 (Fr.of_below (S:=fun _=>False) hb) (fun _ _ z=>z)⟩,h.hb,h.hg,h.ho,h.hn⟩
def mG(lo:Nat)(w:World)(b:Nat)(r:Except (Nat × Nat) GS)(e:Ending)(w':World):Prop:=Fr (fun k=>lo<=k) w w'/\match r with
 | .error (c,a)=>∃ g,w.heap.size<=g/\e=.returned (.iface 111 (.pointer (some ⟨g,0,none⟩)))/\bI w' g c a
 | .ok s'=>e=.returned .nilIface/\GX lo w' b s'
theorem iT(c a:Nat)(w:World):Calls Tryz.prog 68 #[.int .i64 (c:Int),.int .i64 (a:Int)] w fun e w'=>∃ g,w.heap.size<=g/\e=.returned (.iface 111 (.pointer (some ⟨g,0,none⟩)))/\bI w' g c a/\Below w.heap.size w w':=by
 go_enter Tryz.func68,Tryz.ntmps68
 go_wp2
 go_ret
 exact⟨w.heap.size,Nat.le_refl _,rfl,aE _ _,bz9⟩
abbrev eA(K:Int)(d:Dt)(q:Option Addr)(c:Nat):Array Value:=#[.int .i64 K,.int .i64 (d.1.2.1:Int),.int .i64 (d.1.2.2:Int),.int .i64 (d.1.1.n:Int),.int .i64 d.1.1.mn,.int .i64 d.1.1.mx,.slice q d.2.2.length c]
theorem rK{lo b:Nat}{w:World}{s:GS}{d:Dt}{q:Option Addr}{c:Nat}(h:GX lo w b s)(hg:s.g=30) :
  Calls Tryz.prog 67 #[.pointer (some ⟨b,0,none⟩),.agg (eA 3 d q c)] w (mG lo w b (.error (42,d.1.2.1))):=by
 obtain⟨qo,co,hgb,ho⟩:=h.gb
 have lb:=hgb.lt
 have c0:=hgb.c0
 rw [hg] at c0
 have B1:Hid (Below w.heap.size w (w.alloc (.cells (eA 3 d q c) 116))):=bz9
 have PW:Hid (∀ W,Calls Tryz.prog 68 #[.int .i64 42,.int .i64 (d.1.2.1:Int)] W fun e w'=>∃ g,W.heap.size<=g/\e=.returned (.iface 111 (.pointer (some ⟨g,0,none⟩)))/\bI w' g 42 d.1.2.1/\Below W.heap.size W w'):=fun W=>iT 42 d.1.2.1 W
 clear h hgb ho hg
 go_enter Tryz.func67,Tryz.ntmps67
 go_wp2_with (go_at_call 68;(with_reducible refine(PW.out _).mono ?_);rintro e w5 ⟨g5,h1,rfl,h2,h3⟩;have X5:=aC (⟨h1,h2,h3⟩:_/\bI w5 g5 42 d.1.2.1/\_);clear h1 h2 h3)
 go_ret
 exact⟨Fr.of_below (aD B1.out X5.out.2.2 lz9),g5,Nat.le_trans B1.out.size X5.out.1,rfl,X5.out.2.1⟩
theorem aL0{lo b:Nat}{w:World}{s:GS}{d:Dt}{q:Option Addr}{c:Nat}(h:GX lo w b s)(hlo:lo<=w.heap.size)(hg:s.g < 30)(hol:s.o.length < 30) :
  Calls Tryz.prog 67 #[.pointer (some ⟨b,0,none⟩),.agg (eA 3 d q c)] w (mG lo w b (.ok ⟨s.g+1,s.o ++ [(s.g+1,d.1.2.1)],s.e⟩)):=by
 obtain⟨t0,hi,hz0,hz1,hz2⟩:=aP vJ
 obtain⟨qo,co,hgb,ho⟩:=h.gb
 have lb:=hgb.lt
 have c0:=hgb.c0
 have f0:=hgb.frz 0
 have n30:((s.g:Int)==30)=false:=by rw [beq_eq_false_iff_ne];omega
 have G1:=hgb.set0 (s.g+1)
 have F1:Fr (fun k=>lo<=k) w (w.setCell ⟨b,0,none⟩ (.int .i64 ((s.g:Int)+1))):=(Fr.refl (fun k=>lo<=k) w).setCell (p:=⟨b,0,none⟩) h.hb _
 have O1:(w.setCell ⟨b,0,none⟩ (.int .i64 ((s.g:Int)+1))).ownsRow lo 125 2 (.slice qo s.o.length co) s.o.length (eX s.o):=aX ho ((Fr.refl (At b) w).setCell (p:=⟨b,0,none⟩) rfl _) (fun k hk e=>by obtain rfl:k=b:=e;obtain⟨cs,z⟩:=hgb.blk;exact aK ho z (by decide) hk)
 have B2:Below (w.setCell ⟨b,0,none⟩ (.int .i64 ((s.g:Int)+1))).heap.size (w.setCell ⟨b,0,none⟩ (.int .i64 ((s.g:Int)+1))) ((w.setCell ⟨b,0,none⟩ (.int .i64 ((s.g:Int)+1))).alloc (.cells (eA 3 d q c) 116)):=bz9
 have G2:=aC (show GB ((w.setCell ⟨b,0,none⟩ (.int .i64 ((s.g:Int)+1))).alloc (.cells (eA 3 d q c) 116)) b (s.g+1) (.slice qo s.o.length co) s.e from G1.kept B2)
 have F2:=aC (F1.trans (Fr.of_below B2))
 have O2:=aC (aX O1 (Fr.of_below (S:=fun _=>False) B2) (fun _ _ z=>z))
 have T2:=aE (w.setCell ⟨b,0,none⟩ (.int .i64 ((s.g:Int)+1))) (.cells (eA 3 d q c) 116)
 rw [show (w.setCell ⟨b,0,none⟩ (.int .i64 ((s.g:Int)+1))).heap.size=w.heap.size by simp] at T2
 have HT2:=aC T2
 have HH:=aC h
 clear h hgb ho G1 F1 O1 B2 T2
 go_enter Tryz.func67,Tryz.ntmps67
 go_upto_region 6 with fail
 generalize ((w.setCell ⟨b,0,none⟩ (.int .i64 ((s.g:Int)+1))).alloc (.cells (eA 3 d q c) 116))=W2 at G2 F2 O2 HT2 ⊢
 have e0:W2.cell? ⟨b,0,none⟩=some (.int .i64 ((s.g:Int)+1)):=G2.out.c0
 have e1:=G2.out.c1
 have fb:=fun z=>G2.out.frz z
 have lb2:=G2.out.lt
 have a1:=aB HT2.out (i:=1) rfl
 have lt2:=aA HT2.out
 have BA:Below W2.heap.size W2 (W2.alloc (.cells #[.int .i64 ((s.g:Int)+1),.int .i64 (d.1.2.1:Int)] 125)).drew:=(bz9).drew
 have O3:Hid ((W2.alloc (.cells #[.int .i64 ((s.g:Int)+1),.int .i64 (d.1.2.1:Int)] 125)).drew.ownsRow lo 125 2 (.slice qo s.o.length co) s.o.length (eX s.o)):=aX O2.out (Fr.of_below (S:=fun _=>False) BA) (fun _ _ z=>z)
 have NW:=aE W2 (.cells #[.int .i64 ((s.g:Int)+1),.int .i64 (d.1.2.1:Int)] 125)
 have N3:Hid (∀ (j:Nat) (u:Value),[Value.int .i64 ((s.g:Int)+1),.int .i64 (d.1.2.1:Int)][j]?=some u->(W2.alloc (.cells #[.int .i64 ((s.g:Int)+1),.int .i64 (d.1.2.1:Int)] 125)).drew.cell? ((⟨W2.heap.size,0,none⟩:Addr).add j)=some u):=fun j u hj=>by
  match j,hj with
  | 0,hj=>simp at hj;subst hj;exact aB NW (i:=0) rfl
  | 1,hj=>simp at hj;subst hj;exact aB NW (i:=1) rfl
 have HBA:=aC BA
 clear c0 f0 NW BA
 go_region_law (refine gQ rfl _ _ 118 rfl lo 125 t0 (.agg #[.int .i64 0,.int .i64 0]) 2 16 vD hi hz0 hz1 hz2 rfl (by decide) (.slice qo s.o.length co) s.o.length (eX s.o) (by simp [Act.eval]) O3.out ⟨W2.heap.size,0,none⟩ 1 1 [.int .i64 ((s.g:Int)+1),.int .i64 (d.1.2.1:Int)] (by simp [Act.eval]) rfl N3.out (fun u hu=>by simp at hu;rcases hu with rfl | rfl <;> rfl) (by unfold maxLen;omega) (by omega) (Nat.le_trans hlo (Nat.le_trans F2.out.size HBA.out.size)) ?_;intro v' w5 hown' hgrow hblk;obtain⟨q5,c5,rfl⟩:=aI hown';have O5:=aC hown';have F5:Hid (Fr (fun k=>(Value.slice qo s.o.length co).ownBlock=some k) (W2.alloc (.cells #[.int .i64 ((s.g:Int)+1),.int .i64 (d.1.2.1:Int)] 125)).drew w5):=Fr.grown (Fr.refl _ _) hgrow (fun k hk=>hk);have G5:=aC ((G2.out.kept HBA.out).fr F5.out (fun hk=>by obtain⟨cs,z⟩:=(G2.out.kept HBA.out).blk;exact aK O3.out z (by decide) hk));have g5f:=fun z=>G5.out.frz z;have g51:=G5.out.c1;have g5l:=G5.out.lt;clear hown' hgrow hblk)
 all_goals (
  have G6:=aC (G5.out.set1 (.slice q5 (s.o.length+1) c5))
  have FB:Fr (At b) w5 (w5.setCell ⟨b,1,none⟩ (.slice q5 (s.o.length+1) c5)):=(Fr.refl (At b) w5).setCell (p:=⟨b,1,none⟩) rfl _
  have O6:=aC (aX O5.out FB (fun k hk e=>by obtain rfl:k=b:=e;obtain⟨cs,z⟩:=G5.out.blk;exact aK O5.out z (by decide) hk))
  have F6:=aC (((F2.out.trans (Fr.of_below HBA.out)).over F5.out (fun k hk=>.inl (aG O3.out hk).1)).over FB (fun k hk=>.inl (by rw [show k=b from hk];exact HH.out.hb)))
  clear FB
  go_wp2
  go_ret
  refine⟨F6.out,rfl,⟨q5,c5,?_,?_⟩,HH.out.hb,by show s.g+1<=30;omega,fun x hx=>?_,by simp;omega⟩
  ·rw [List.length_append]
   exact G6.out
  ·rw [List.length_append,lM]
   exact O6.out
  ·rcases List.mem_append.1 hx with z | z
   ·exact HH.out.ho x z
   ·simp at z;rw [z];show s.g+1<=30;omega)
end Go.Proofs.YticfnglebbakkaaGreatDoor
