import Derived.Deep.QuietTactic
import Derived.BigQuiet
import Derived.WalkSmall
import Derived.Test.YtfboipappaonhaaGreatM00
import Derived.Test.YtfboipappaonhaaGreatM01
import Derived.Test.YtfboipappaonhaaGreatM04
namespace Go.Proofs.YtfboipappaonhaaGreat
set_option linter.unusedSimpArgs false
set_option linter.unusedVariables false
set_option maxHeartbeats 16000000
set_option maxRecDepth 100000
open Go.RowKit
structure RdF (w:World) (rp:Nat) (a:Option Addr) (cap:Nat) (bs:List UInt8) (p:Nat):Prop where
 c0:w.cell? ⟨rp,0,none⟩ = some (.slice a bs.length cap)
 c1:w.cell? ⟨rp,1,none⟩ = some (.int .i64 (p:Int))
 fz:w.frozen? ⟨rp,1,none⟩ = false
 bts:bs.length = 0 \/ ∃ b off,a = some ⟨b,off,none⟩ /\ b < rp /\ ∀ i,i < bs.length -> w.cell? ⟨b,off + i,none⟩ = some (.int .u8 ((bs.getD i 0).toNat:Int))
theorem RdS.free {w:World} {rp cap p:Nat} {a:Option Addr} {bs:List UInt8} (h:RdS w rp a cap bs p):RdF w rp a cap bs p:=⟨h.c0,h.c1,h.fz,h.bts⟩
theorem RdF.lt {w:World} {rp cap p:Nat} {a:Option Addr} {bs:List UInt8} (h:RdF w rp a cap bs p):rp < w.heap.size:=block_lt_of_cell h.c0
theorem RdF.kept {w w':World} {rp cap p:Nat} {a:Option Addr} {bs:List UInt8} (h:RdF w rp a cap bs p) (hb:∀ i,i <= rp -> w'.heap[i]? = w.heap[i]?):RdF w' rp a cap bs p:=by
 have e:=fun o=>World.cell?_of_block (w:=w) (w':=w') (a:=⟨rp,o,none⟩) (hb rp (Nat.le_refl _))
 refine ⟨(e _).trans h.c0,(e _).trans h.c1,(World.frozen?_of_block (w:=w) (w':=w') (a:=⟨rp,1,none⟩) (hb rp (Nat.le_refl _))).trans h.fz,?_⟩
 rcases h.bts with h0 | ⟨b,off,ha,hlt,hc⟩
 ·exact Or.inl h0
 ·exact Or.inr ⟨b,off,ha,hlt,fun i hi=>(World.cell?_of_block (w:=w) (w':=w') (a:=⟨b,off + i,none⟩) (hb b (Nat.le_of_lt hlt))).trans (hc i hi)⟩
theorem RdF.below {w w':World} {rp cap p:Nat} {a:Option Addr} {bs:List UInt8} (h:RdF w rp a cap bs p) (hb:Below w.heap.size w w'):RdF w' rp a cap bs p:=
 h.kept (fun i hi=>hb.block i (by have:=h.lt; omega))
theorem RdF.move {w:World} {rp cap p:Nat} {a:Option Addr} {bs:List UInt8} (h:RdF w rp a cap bs p) (q:Nat) (n:Int) (hn:n = (q:Int)):RdF (w.setCell ⟨rp,1,none⟩ (.int .i64 n)) rp a cap bs q:=by
 subst hn
 refine ⟨(World.cell?_setCell_other _ _ _ _ (by simp)).trans h.c0,World.cell?_setCell_same _ _ _ h.c1,(World.frozen?_setCell _ _ _ _).trans h.fz,?_⟩
 rcases h.bts with h0 | ⟨b,off,ha,hlt,hc⟩
 ·exact Or.inl h0
 ·exact Or.inr ⟨b,off,ha,hlt,fun i hi=>(World.cell?_setCell_other _ _ _ _ (fun e=>by simp at e; first | done | omega)).trans (hc i hi)⟩
theorem RdF.drewN {w:World} {rp cap p:Nat} {a:Option Addr} {bs:List UInt8} (h:RdF w rp a cap bs p) (n:Nat):RdF (w.drewN n) rp a cap bs p:=h.kept (fun _ _=>rfl)
theorem zCq (rp cap p:Nat) (a:Option Addr) (bs:List UInt8) (w:World) (h:RdF w rp a cap bs p) (hl:bs.length <= 1200) :
  Calls Tryz.prog 48 #[.pointer (some ⟨rp,0,none⟩)] w fun e w'=>(∃ k:Nat,e = .returned (.int .i64 (k:Int)) /\ k < 256 /\ Hid (k = nxt bs p)) /\ Hid (RdF w' rp a cap bs (adv bs p)) /\ Hid (zE w w' rp):=by
 have H:=zB h
 obtain ⟨c0,c1,fz,bts⟩:=h
 by_cases hp:p < bs.length
 ·have hpI:(p:Int) < (bs.length:Int):=by omega
  rcases bts with h0 | ⟨b,off,rfl,hlt,hc⟩
  ·omega
  have b0:=hc p hp
  have HA:=zB (show adv bs p = p + 1 by simp [adv,hp])
  clear hc
  go_enter Tryz.func48,Tryz.ntmps48
  go_wp2_with fail
  go_quiet (fail)
  go_wp2_with fail
  go_quiet (fail)
  go_wp2_with fail
  go_ret
  rw [zA HA]
  have h8:nxt bs p < 256:=zGi bs p
  refine ⟨⟨nxt bs p,zJ ?_,h8,zB rfl⟩,zB (((zA H).drewN _).move (p + 1) _ (by omega)),zB ((zAt w _ _).trans (zAQ _ rp 1 _))⟩
  have h9:nxt bs p = bs[p].toNat:=by simp [nxt,hp]
  rw [h9] at h8 ⊢
  unfold wrap64
  omega
 ·have hpI:¬ (p:Int) < (bs.length:Int):=by omega
  have HA:=zB (show adv bs p = p by simp [adv,hp])
  have HN:=zB (show nxt bs p = 0 by unfold nxt; rw [List.getD_eq_getElem?_getD,List.getElem?_eq_none (by omega)]; rfl)
  clear bts
  go_enter Tryz.func48,Tryz.ntmps48
  go_wp2_with fail
  go_quiet (fail)
  go_wp2_with fail
  go_ret
  rw [zA HA]
  exact ⟨⟨0,rfl,by decide,zB (zA HN).symm⟩,zB ((zA H).drewN _),zB (zAt w _ _)⟩
def zCH:List OpR:=[⟨⟨#[45]⟩,1,9,0⟩]
theorem zEP (w:World) :
  Calls Tryz.prog 63 #[] w fun e w'=>(∃ g c,e = .returned (.agg #[.slice (some ⟨g,0,none⟩) zCH.length c]) /\ w.heap.size <= g /\ zf w' g zCH zCH.length) /\ Below w.heap.size w w':=by
 go_enter Tryz.func63,Tryz.ntmps63
 go_wp2_with fail
 refine bodyPost_ret (v:=.agg #[.slice (some ⟨w.heap.size + 1,0,none⟩) 1 1]) ?res rfl ⟨⟨w.heap.size + 1,1,rfl,by omega,?_⟩,?_⟩
 case res=>simp [results,Tryz.results63,go_sem]
 ·refine ⟨by simp,fun j hj=>?_,fun i hi=>?_⟩
  ·have hj4:j < 4:=hj
   match j,hj4 with
   | 0,_=>simp [go_sem]
   | 1,_=>simp [go_sem]
   | 2,_=>simp [go_sem]
   | 3,_=>simp [go_sem]
  ·have hi0:i = 0:=by have:i < 1:=hi; omega
   subst hi0
   simp [zAI,zCH,atO,go_sem]
 ·exact (zC _ _).alloc (by simp) _
def chT:Nat -> List zD
 | 0=>[⟨1,⟨#[49]⟩,0,0⟩]
 | n + 1=>chT n ++ [⟨3,⟨#[45]⟩,(n:Int),0⟩]
theorem zGn:∀ n,(chT n).length = n + 1
 | 0=>rfl
 | n + 1=>by simp [chT,zGn n]
theorem zEQ (n:Nat) (w:World) (hn:n <= 2000) :
  Calls Tryz.prog 96 #[.int .i64 (n:Int)] w fun e w'=>(∃ g c,e = .returned (.agg #[.slice (some ⟨g,0,none⟩) (chT n).length c]) /\ w.heap.size <= g /\ zM w' g (chT n) (chT n).length) /\ Below w.heap.size w w':=by
 obtain ⟨i0,hi,hz0,hz1,hz2⟩:=ZJ zBh
 have HI:=zB hi
 have HZ:=zB (And.intro hz0 (And.intro hz1 hz2))
 clear hi hz0 hz1 hz2
 have hnI:(n:Int) <= 2000:=by omega
 go_enter Tryz.func96,Tryz.ntmps96
 go_wp2_with fail
 have HO0:=zB (show zi ((w.alloc (.cells #[.slice none 0 0] 28)).alloc (.cells #[.int .i64 1,.string ⟨#[49]⟩,.int .i64 0,.int .i64 0] 81)) (w.heap.size + 1) (w.heap.size + 1) 1 (chT 0) by
  have:=(World.ownsRow_lit (base:=w.heap.size + 1) (e:=81) (size:=4) (w.alloc (.cells #[.slice none 0 0] 28)) #[.int .i64 1,.string ⟨#[49]⟩,.int .i64 0,.int .i64 0] 1 (by simp) (by decide) rfl)
  simpa [zi,zH,chT] using this)
 have hb0:Below w.heap.size w ((w.alloc (.cells #[.slice none 0 0] 28)).alloc (.cells #[.int .i64 1,.string ⟨#[49]⟩,.int .i64 0,.int .i64 0] 81)):=(zC _ _).alloc (by simp) _
 go_loopw [3,4] (fun v i wr=>∃ (j g c:Nat),j <= n /\ i = .int .i64 (j:Int) /\ v = .slice (some ⟨g,0,none⟩) (chT j).length c /\ Hid (zi wr (w.heap.size + 1) g c (chT j)) /\ wr.cell? ⟨w.heap.size,0,none⟩ = some (.slice none 0 0) /\ wr.frozen? ⟨w.heap.size,0,none⟩ = false /\ w.heap.size < wr.heap.size /\ Below w.heap.size w wr) (fun _ i _=>n - (intOf i).toNat)
 case atStart=>exact ⟨0,w.heap.size + 1,1,Nat.zero_le _,rfl,rfl,HO0,by simp [go_sem],by simp [go_sem],by simp; omega,hb0⟩
 case round=>
  clear HO0 hb0
  obtain ⟨j,g,c,hj,rfl,rfl,HO,t0,t1,zr,hbel⟩:=hrel
  have hcl:(chT j).length <= 2001:=by rw [zGn]; omega
  by_cases hlt:j < n
  ·have e1:(j:Int) < (n:Int):=by omega
   have hgo:=(zA HO).lt
   go_wp2_with (at_builtin; refine wpList_append_own_at _ rfl (.tmp 12) (.tmp 15) 26 rfl (w.heap.size + 1) 81 i0 _ 4 40 Tryz.underlying26 (zA HI) (zA HZ).1 (zA HZ).2.1 (zA HZ).2.2 rfl (by decide) _ (chT j).length (zH (chT j)) rfl ((zA HO).below (zC _ _)) ⟨wr.heap.size,0,none⟩ 1 1 (zH [⟨3,⟨#[45]⟩,(j:Int),0⟩]) rfl rfl (zZ wr ⟨3,⟨#[45]⟩,(j:Int),0⟩) (zL _) ?b1 ?b2 ?b3 ?next)
   case b1=>unfold maxLen; omega
   case b2=>omega
   case b3=>simp; omega
   case next=>
    intro v4 w4 hown4 hgrow4 hnil4 hat4
    obtain ⟨g4,c4,rfl,hr4⟩:=zi.snoc hown4 (by simp [hnil4]) (show chT (j + 1) = chT j ++ [⟨3,⟨#[45]⟩,(j:Int),0⟩] from rfl)
    have HR4:=zB hr4
    have hb4:Below w.heap.size w w4:=((hbel.alloc hbel.size _)).grown hgrow4 (by have:=hbel.size; simp; omega) (fun q hq=>by simp [Value.ownBlock] at hq; omega)
    have s0:w4.cell? ⟨w.heap.size,0,none⟩ = some (.slice none 0 0):=(World.cell?_of_block (w:=(wr.alloc _)) (hgrow4.block w.heap.size (by simp; omega) (by simp [Value.ownBlock]; omega))).trans (((zC _ _).cell (p:=⟨w.heap.size,0,none⟩) zr).trans t0)
    have s1:w4.frozen? ⟨w.heap.size,0,none⟩ = false:=(World.frozen?_of_block (w:=(wr.alloc _)) (hgrow4.block w.heap.size (by simp; omega) (by simp [Value.ownBlock]; omega))).trans (((zC _ _).frozen (p:=⟨w.heap.size,0,none⟩) zr).trans t1)
    have z4:w.heap.size < w4.heap.size:=by have:=hgrow4.size; simp at this; omega
    clear hown4 hgrow4 hnil4 hr4 hat4 HO t0 t1
    go_wp2_with fail
    refine ⟨⟨j + 1,g4,c4,by omega,by simp,rfl,HR4,s0,s1,z4,hb4⟩,?_⟩
    simp [intOf]
    omega
  ·have e1:¬ (j:Int) < (n:Int):=by omega
   have hjn:j = n:=by omega
   subst hjn
   obtain ⟨hgB,hF⟩:=ZF (zA HO)
   have HF:=zB hF
   have HBL:=zB hbel
   clear hF hbel HO
   go_wp2_with fail
   refine bodyPost_ret (v:=.agg #[.slice (some ⟨g,0,none⟩) (chT j).length c]) ?res rfl ⟨⟨g,⟨c,rfl⟩,by omega,(zA HF).setCell _ _ _ (by omega)⟩,(zA HBL).setCell (by simp) _⟩
   case res=>simp [results,Tryz.results96,go_sem,t0]
theorem zE8 (rp cap p gt ct:Nat) (a:Option Addr) (bs:List UInt8) (ns:List OpR) (grp:Bool) (w:World) (h:RdS w rp a cap bs p) (hl:bs.length <= 1200) (hns:ns.length <= 1048576) (hks:∀ j,j < ns.length -> 0 <= (atO ns j).k /\ (atO ns j).k <= 9) (ho:Ops w gt 0 ns) (hgt:gt < w.heap.size) (hnr:gt ≠ rp) :
  Calls Tryz.prog 94 #[.pointer (some ⟨rp,0,none⟩),.agg #[.slice (some ⟨gt,0,none⟩) ns.length ct],.bool grp] w fun e w'=>(∃ g c,e = .returned (.agg #[.slice (some ⟨g,0,none⟩) (gen bs ns grp (2 + nxt bs p % 5) (adv bs p) []).2.length c]) /\ (gen bs ns grp (2 + nxt bs p % 5) (adv bs p) []).2.length <= c /\ w.heap.size <= g /\ zM w' g (gen bs ns grp (2 + nxt bs p % 5) (adv bs p) []).2 (gen bs ns grp (2 + nxt bs p % 5) (adv bs p) []).2.length) /\ Hid (RdS w' rp a cap bs (gen bs ns grp (2 + nxt bs p % 5) (adv bs p) []).1) /\ Hid (zE w w' rp):=by
 have hrpw:=h.lt
 have H:=zB h
 have HO:=zB ho
 clear h ho
 obtain ⟨y,HY⟩:∃ y,Hid (gen bs ns grp (2 + nxt bs p % 5) (adv bs p) [] = y):=⟨_,zB rfl⟩
 rw [zA HY]
 go_enter Tryz.func94,Tryz.ntmps94
 go_wp2_with fail
 have hb0:Below w.heap.size w ((w.alloc (.cells #[.slice (some ⟨gt,0,none⟩) ns.length ct] 25)).alloc (.cells #[.slice none 0 0] 28)):=(zC _ _).alloc (by simp) _
 (with_reducible refine (Z9 rp cap p a bs _ ((zA H).below hb0) hl).mono ?_)
 rintro e w1 ⟨⟨k,rfl,hk,HK⟩,H1,HP1⟩
 have z1:w.heap.size + 2 <= w1.heap.size:=by have:=(zA HP1).size; simpa using this
 have t0:w1.cell? ⟨w.heap.size,0,none⟩ = some (.slice (some ⟨gt,0,none⟩) ns.length ct):=((zA HP1).cell (b:=w.heap.size) (by simp; omega) (by omega) 0).trans (by simp [go_sem])
 have r0:w1.cell? ⟨w.heap.size + 1,0,none⟩ = some (.slice none 0 0):=((zA HP1).cell (b:=w.heap.size + 1) (by simp) (by omega) 0).trans (by simp [go_sem])
 have r1:w1.frozen? ⟨w.heap.size + 1,0,none⟩ = false:=((zA HP1).frozen (b:=w.heap.size + 1) (by simp) (by omega) 0).trans (by simp [go_sem])
 have HW:=zB ((zE.of_below (g:=rp) hb0).trans (zA HP1))
 have HO1:=zB ((zA HW).ops (zA HO) hgt hnr)
 obtain ⟨d,HD⟩:∃ d,Hid (d = 2 + k % 5):=⟨_,zB rfl⟩
 have hd:(2:Int) + (k:Int) % 5 = (d:Int):=by have:=zA HD; omega
 have hd6:d <= 6:=by have:=zA HD; omega
 have hyE:gen bs ns grp d (adv bs p) [] = y:=by rw [zA HD,zA HK]; exact zA HY
 have HRW:=zB (show zi (w1.alloc (.cells #[] 81)) w1.heap.size w1.heap.size 0 [] by
  have:=World.ownsRow_lit (base:=w1.heap.size) (e:=81) (size:=4) w1 #[] 0 (Nat.le_refl _) (Nat.zero_le _) rfl
  simpa [zi,zH] using this)
 have hp6:(2:Nat) ^ (d + 1) <= 128:=by have:=Nat.pow_le_pow_right (show 0 < 2 by decide) (show d + 1 <= 7 by omega); omega
 have hb1:=zC w1 (.cells #[] 81)
 have HC:=zB (zGC rp cap gt ct a bs ns grp hl hns hnr hks d (adv bs p) w1.heap.size w1.heap.size 0 [] _ (by omega) (by simp; omega) ((zA H1).below hb1) (zA HRW) (by simp) (by omega) (by omega) ((zA HO1).below hb1 (by omega)))
 rw [hyE,List.length_nil] at HC
 have HB1:=zB hb1
 have hgt1:gt < w1.heap.size:=by omega
 clear H H1 HP1 hb0 HO hyE HRW HO1 hb1
 go_wp2_with fail
 (with_reducible refine (zA HC).mono ?_)
 rintro e w2 ⟨g',c',rfl,hr2,hg2,hd2,hk2⟩
 have z2:w1.heap.size + 1 <= w2.heap.size:=by have:=(zA hk2).size; simpa using this
 obtain ⟨hgB,hF⟩:=ZF (zA hr2)
 have hcap:=(zJ4 (zA hr2)).1
 have kc:=fun (b:Nat) (hb:b < w1.heap.size) (h1:b ≠ rp) (o':Nat)=>((zA hk2).cell (b:=b) (by simp; omega) h1 (by omega) o').trans ((zA HB1).cell (p:=⟨b,o',none⟩) hb)
 have R0:=(kc (w.heap.size + 1) (by omega) (by omega) 0).trans r0
 have R1:w2.frozen? ⟨w.heap.size + 1,0,none⟩ = false:=(((zA hk2).frozen (b:=w.heap.size + 1) (by simp; omega) (by omega) (by omega) 0).trans ((zA HB1).frozen (p:=⟨w.heap.size + 1,0,none⟩) (by show w.heap.size + 1 < w1.heap.size; omega))).trans r1
 have HF:=zB hF
 have HKK:=zB (show zE w w2 rp from ⟨(zA hk2).os.trans ((zA HB1).os.trans (zA HW).os),(zA hk2).tape.trans ((zA HB1).tape.trans (zA HW).tape),(zA hk2).output.trans ((zA HB1).output.trans (zA HW).output),by omega,fun i hi h1=>((zA hk2).block i (by simp; omega) h1 (by omega)).trans (((zA HB1).block i (by omega)).trans ((zA HW).block i hi h1))⟩)
 clear hF kc HB1 HC hk2 HW
 go_wp2_with fail
 refine bodyPost_ret (v:=.agg #[.slice (some ⟨g',0,none⟩) y.2.length c']) ?res rfl ⟨⟨g',c',rfl,hcap,by omega,(zA HF).setCell _ _ _ (by omega)⟩,zB ((zA hd2).kept (fun i hi=>(zAQ _ _ _ _).block i (by omega) (by omega))),zB ((zA HKK).setRow (w.heap.size + 1) _ _ (Or.inr (by omega)))⟩
 case res=>simp [results,Tryz.results94,go_sem,R0]
end Go.Proofs.YtfboipappaonhaaGreat
namespace Go.Proofs.YtfboipappaonhaaGreat
set_option maxHeartbeats 16000000
set_option maxRecDepth 100000
open Go.RowKit
theorem zCI (s:ByteArray) (k l sd:Int) (w:World) (hs:s.size <= maxLen) :
  Calls Tryz.prog 101 #[.agg #[.string s,.int .i64 k,.int .i64 l,.int .i64 sd]] w fun e w'=>e = .returned (.bool (okB s k l sd)) /\ Below w.heap.size w w':=by
 cases ht:zDO s
 ·have hf:=zB (show okB s k l sd = false by simp [okB,ht])
  go_enter Tryz.func101,Tryz.ntmps101
  go_wp2_with (go_at_call 142; refine (zCd _ _ hs).mono ?_; rintro e w' ⟨rfl,rfl⟩)
  go_ret
  exact ⟨zk (zA hf).symm,zC _ _⟩
 ·have hf:=zB (show okB s k l sd = (decide (1 <= l) && decide (l <= 1000) && zEO k sd) by simp [okB,ht])
  go_enter Tryz.func101,Tryz.ntmps101
  go_wp2_with (go_at_call 142; refine (zCd _ _ hs).mono ?_; rintro e w' ⟨rfl,rfl⟩)
  all_goals (go_ret; refine ⟨zk ?_,zC _ _⟩; rw [zA hf]; go_light; clear hf; (try simp only [beq_iff_eq,beq_eq_false_iff_ne,ne_eq] at *); rw [Bool.eq_iff_iff]; simp [zEO] <;> omega)
theorem zCJ (s:ByteArray) (k l sd:Int) (w:World) :
  Calls Tryz.prog 157 #[.agg #[.string s,.int .i64 k,.int .i64 l,.int .i64 sd]] w fun e w'=>e = .returned (.bool (zEO k sd)) /\ Below w.heap.size w w':=by
 go_enter Tryz.func157,Tryz.ntmps157
 go_wp2
 all_goals (go_ret; refine ⟨zk ?_,zC _ _⟩; go_light; (try simp only [beq_iff_eq,beq_eq_false_iff_ne,ne_eq] at *); rw [Bool.eq_iff_iff]; simp [zEO] <;> omega)
theorem Z5 (s:ByteArray) (k l sd:Int) (w:World) (hs:s.size <= maxLen) :
  Calls Tryz.prog 122 #[.agg #[.string s,.int .i64 k,.int .i64 l,.int .i64 sd]] w fun e w'=>e = .returned (.bool (okB s k l sd)) /\ Below w.heap.size w w':=by
 cases ht:zDO s
 ·have hf:=zB (show okB s k l sd = false by simp [okB,ht])
  go_enter Tryz.func122,Tryz.ntmps122
  go_wp2_with (go_at_call 140; refine (Zy _ _ hs).mono ?_; rintro e w' ⟨rfl,rfl⟩)
  go_ret
  exact ⟨zk (zA hf).symm,zC _ _⟩
 ·have hf:=zB (show okB s k l sd = (decide (1 <= l) && decide (l <= 1000) && zEO k sd) by simp [okB,ht])
  by_cases h1:1 <= l
  ·by_cases h2:l <= 1000
   ·go_enter Tryz.func122,Tryz.ntmps122
    go_wp2_with (first | (go_at_call 140; refine (Zy _ _ hs).mono ?_; rintro e w' ⟨rfl,rfl⟩) | (go_at_call 157; refine (zCJ _ _ _ _ _).mono ?_; rintro e w' ⟨rfl,hb⟩))
    go_ret
    exact ⟨zk (by rw [zA hf]; simp [h1,h2]),(zC _ _).trans (hb.mono (by simp))⟩
   ·go_enter Tryz.func122,Tryz.ntmps122
    go_wp2_with (first | (go_at_call 140; refine (Zy _ _ hs).mono ?_; rintro e w' ⟨rfl,rfl⟩) | (go_at_call 157; refine (zCJ _ _ _ _ _).mono ?_; rintro e w' ⟨rfl,hb⟩))
    go_ret
    exact ⟨zk (by rw [zA hf]; simp; intros; omega),zC _ _⟩
  ·go_enter Tryz.func122,Tryz.ntmps122
   go_wp2_with (first | (go_at_call 140; refine (Zy _ _ hs).mono ?_; rintro e w' ⟨rfl,rfl⟩) | (go_at_call 157; refine (zCJ _ _ _ _ _).mono ?_; rintro e w' ⟨rfl,hb⟩))
   go_ret
   exact ⟨zk (by rw [zA hf]; simp; intros; omega),zC _ _⟩
theorem zJ5 (b off cap:Nat) (xs:List OpR) (w:World) (hn2:xs.length <= 1048576) (hw:Ops w b off xs) (hs:Zr xs) (hB:b < w.heap.size) :
  Calls Tryz.prog 74 #[.slice (some ⟨b,off,none⟩) xs.length cap] w fun e w'=>(∃ v,e = .returned (.bool v) /\ (v = true ↔ zAD xs xs.length)) /\ Below w.heap.size w w':=by
 go_enter Tryz.func74,Tryz.ntmps74
 go_wp2
 go_loopw [7] (fun i wr=>∃ k:Nat,k <= xs.length /\ i = .int .i64 k /\ zAD xs k /\ Below w.heap.size w wr) (fun i _=>xs.length - (intOf i).toNat)
 case atStart=>exact ⟨0,Nat.zero_le _,rfl,fun j h=>by omega,Below.refl _ _⟩
 case round=>
  obtain ⟨k,hk,rfl,hok,hbel⟩:=hrel
  by_cases hlt:k < xs.length
  ·obtain ⟨h0,h1,h2,h3⟩:=(hw k hlt).below hbel hB
   cases ht:(atO xs k).ok
   ·have Ht:=zB ht
    unfold OpR.ok at ht
    go_wp2_with (go_at_call 122; refine (Z5 _ _ _ _ _ (hs k hlt)).mono ?_; rintro e w' ⟨rfl,hb⟩)
    go_ret
    refine ⟨⟨false,rfl,⟨fun h=>(by cases h),fun h=>?_⟩⟩,?_⟩
    ·have:=h k hlt; rw [zA Ht] at this; cases this
    ·exact hbel.trans (((zC _ _).trans (hb.mono (by simp))).mono hbel.size)
   ·have Ht:=zB ht
    unfold OpR.ok at ht
    go_wp2_with (go_at_call 122; refine (Z5 _ _ _ _ _ (hs k hlt)).mono ?_; rintro e w' ⟨rfl,hb⟩)
    exact ⟨⟨k + 1,by omega,by go_num,zF9 hok (zA Ht),hbel.trans (((zC _ _).trans (hb.mono (by simp))).mono hbel.size)⟩,by simp [intOf]; omega⟩
  ·have:k = xs.length:=by omega
   go_wp2
   go_ret
   exact ⟨⟨true,rfl,⟨fun _=>this ▸ hok,fun _=>rfl⟩⟩,hbel⟩
def srt (k sd:Int):Int:=if k = 1 then 2 else if k = 3 then 1 else sd
theorem zAM (s:ByteArray) (k l sd:Int) (w:World) :
  Calls Tryz.prog 143 #[.agg #[.string s,.int .i64 k,.int .i64 l,.int .i64 sd]] w fun e w'=>e = .returned (.int .i64 (srt k sd)) /\ Below w.heap.size w w':=by
 by_cases h1:k = 1
 ·have h1':(k == 1) = true:=by simpa using h1
  have H:=zB h1
  clear h1
  go_enter Tryz.func143,Tryz.ntmps143
  go_wp2
  go_ret
  exact ⟨zJ (by simp [srt,zA H]),zC _ _⟩
 ·by_cases h3:k = 3
  ·have h1':(k == 1) = false:=by simpa using h1
   have h3':(k == 3) = true:=by simpa using h3
   have H:=zB h3
   clear h3 h1
   go_enter Tryz.func143,Tryz.ntmps143
   go_wp2
   go_ret
   exact ⟨zJ (by simp [srt,zA H]),zC _ _⟩
  ·have h1':(k == 1) = false:=by simpa using h1
   have h3':(k == 3) = false:=by simpa using h3
   go_enter Tryz.func143,Tryz.ntmps143
   go_wp2
   go_ret
   exact ⟨zJ (by simp [srt,h1,h3]),zC _ _⟩
theorem zM2 {s:ByteArray} {k l sd:Int} (h:okB s k l sd = true) :
  (k = 3 \/ sd = 1 -> srt k sd = 1) /\ (¬ (k = 3 \/ sd = 1) -> (k = 1 \/ sd = 2) -> srt k sd = 2) /\ (¬ (k = 3 \/ sd = 1) -> ¬ (k = 1 \/ sd = 2) -> srt k sd = 3):=by
 obtain ⟨_,h⟩:=zAX s k l sd h
 unfold srt
 rcases h with ⟨rfl,rfl⟩ | ⟨rfl,rfl⟩ | ⟨rfl,rfl⟩ | ⟨rfl,rfl⟩ | ⟨rfl,rfl⟩ <;> decide
theorem zE9 (s:ByteArray) (k l sd:Int) (w:World) (ho:okB s k l sd = true) :
  Calls Tryz.prog 124 #[.agg #[.string s,.int .i64 k,.int .i64 l,.int .i64 sd]] w fun e w'=>e = .returned (.int .i64 (srt k sd)) /\ Below w.heap.size w w':=by
 have ho':=zB (zM2 ho)
 clear ho
 go_enter Tryz.func124,Tryz.ntmps124
 go_wp2
 all_goals (go_ret; refine ⟨zJ ?_,zC _ _⟩; obtain ⟨p1,p2,p3⟩:=zA ho'; go_light; (try simp only [beq_iff_eq,beq_eq_false_iff_ne,ne_eq] at *); first | (rw [p1 (by omega)]) | (rw [p2 (by omega) (by omega)]) | (rw [p3 (by omega) (by omega)]))
theorem zGo (s t:ByteArray) (k l sd k' l' sd':Int) (w:World) :
  Calls Tryz.prog 102 #[.agg #[.string s,.int .i64 k,.int .i64 l,.int .i64 sd],.agg #[.string t,.int .i64 k',.int .i64 l',.int .i64 sd'],.int .i64 3] w fun e w'=>(∃ v,e = .returned (.bool v) /\ (v = true ↔ (s = t /\ (k = 1 ↔ k' = 1)))) /\ Below w.heap.size w w':=by
 go_enter Tryz.func102,Tryz.ntmps102
 go_wp2
 ·go_ret
  refine ⟨⟨_,rfl,?_⟩,(zC _ _).alloc (by simp) _⟩
  go_light
  have e:=zEy ‹_›
  rw [beq_iff_eq,Bool.eq_iff_iff]
  simp [e]
 ·go_ret
  refine ⟨⟨_,rfl,?_⟩,(zC _ _).alloc (by simp) _⟩
  go_light
  have e:s ≠ t:=fun e=>(‹¬ s.toList = t.toList›) (by rw [e])
  simp [e]
theorem zJ6 {w W w1:World} (hb:Below W.heap.size W w1) (h:w.heap.size + 1 < W.heap.size) (hB:Below w.heap.size w W) :
  (∀ o,w1.cell? ⟨w.heap.size,o,none⟩ = W.cell? ⟨w.heap.size,o,none⟩) /\ (∀ o,w1.cell? ⟨w.heap.size + 1,o,none⟩ = W.cell? ⟨w.heap.size + 1,o,none⟩) /\ w.heap.size + 1 < w1.heap.size /\ Below w.heap.size w w1:=
 ⟨fun _=>hb.cell (p:=⟨_,_,none⟩) (show w.heap.size < _ by omega),fun _=>hb.cell (p:=⟨_,_,none⟩) h,Nat.lt_of_lt_of_le h hb.size,hB.trans (hb.mono (by omega))⟩
theorem zGp (s t:ByteArray) (k l sd k' l' sd':Int) (w:World) :
  Calls Tryz.prog 102 #[.agg #[.string s,.int .i64 k,.int .i64 l,.int .i64 sd],.agg #[.string t,.int .i64 k',.int .i64 l',.int .i64 sd'],.int .i64 4] w fun e w'=>(∃ v,e = .returned (.bool v) /\ (v = true ↔ (l = l' /\ srt k sd ≠ srt k' sd'))) /\ Below w.heap.size w w':=by
 by_cases hl:l = l'
 ·have hl':(l == l') = true:=by simpa using hl
  have H:=zB hl
  clear hl
  go_enter Tryz.func102,Tryz.ntmps102
  go_wp2_with fail
  go_region_held (fun w'=>(w'.cell? ⟨w.heap.size,0,none⟩ = some (.string s) /\ w'.cell? ⟨w.heap.size,1,none⟩ = some (.int .i64 k) /\ w'.cell? ⟨w.heap.size,2,none⟩ = some (.int .i64 l) /\ w'.cell? ⟨w.heap.size,3,none⟩ = some (.int .i64 sd)) /\
   (w'.cell? ⟨w.heap.size + 1,0,none⟩ = some (.string t) /\ w'.cell? ⟨w.heap.size + 1,1,none⟩ = some (.int .i64 k') /\ w'.cell? ⟨w.heap.size + 1,2,none⟩ = some (.int .i64 l') /\ w'.cell? ⟨w.heap.size + 1,3,none⟩ = some (.int .i64 sd'))) (go_keep)
   (first | (go_at_call 143; refine (zAM _ _ _ _ _).mono ?_; rintro e w1 ⟨rfl,hb1⟩; obtain ⟨t0,t1,z1,hB⟩:=zJ6 (w:=w) hb1 (by first | assumption | (simp [heap_drew]; done)) (by first | assumption | exact ((zC _ _).alloc (by simp) _).drew)))
  go_wp2
  go_ret
  refine ⟨⟨_,rfl,?_⟩,hB⟩
  have e:=zA H
  simp [e]
 ·have hl':(l == l') = false:=by simpa using hl
  go_enter Tryz.func102,Tryz.ntmps102
  go_wp2_with fail
  go_quiet (fail)
  go_wp2
  go_ret
  refine ⟨⟨_,rfl,?_⟩,below_drewN ((zC _ _).alloc (by simp) _) _⟩
  simp [hl]
def cl (c:Int) (a b:OpR):Prop:=if c = 3 then (a.s = b.s /\ (a.k = 1 ↔ b.k = 1)) else (a.l = b.l /\ srt a.k a.sd ≠ srt b.k b.sd)
theorem zHj (a b:OpR) (c:Int) (w:World) (hc:c = 3 \/ c = 4) :
  Calls Tryz.prog 102 #[.agg #[.string a.s,.int .i64 a.k,.int .i64 a.l,.int .i64 a.sd],.agg #[.string b.s,.int .i64 b.k,.int .i64 b.l,.int .i64 b.sd],.int .i64 c] w fun e w'=>(∃ v,e = .returned (.bool v) /\ (v = true ↔ cl c a b)) /\ Below w.heap.size w w':=by
 rcases hc with rfl | rfl
 ·exact zGo _ _ _ _ _ _ _ _ _
 ·exact zGp _ _ _ _ _ _ _ _ _
def Pr (c:Int) (xs:List OpR):Prop:=∃ i j,j < i /\ i < xs.length /\ cl c (atO xs i) (atO xs j)
def zFA (c:Int) (xs:List OpR) (k:Nat):Prop:=∀ i j,j < i -> i < k -> ¬ cl c (atO xs i) (atO xs j)
theorem zD4 {c:Int} {xs:List OpR} {k:Nat} (h:zFA c xs k) (hk:∀ j,j < k -> ¬ cl c (atO xs k) (atO xs j)):zFA c xs (k + 1):=by
 intro i j hj hi
 by_cases e:i = k
 ·subst e; exact hk j hj
 ·exact h i j hj (by omega)
theorem zFB {c:Int} {xs:List OpR} (h:zFA c xs xs.length):¬ Pr c xs:=fun ⟨i,j,hj,hi,hc⟩=>h i j hj hi hc
def zO (xs:List OpR) (c:Int):Prop:=
 (c = 1 /\ 500 < xs.length) \/ (xs.length <= 500 /\ ((c = 2 /\ ¬ zAD xs xs.length) \/ (zAD xs xs.length /\ ((c = 3 /\ Pr 3 xs) \/ (¬ Pr 3 xs /\ ((c = 4 /\ Pr 4 xs) \/ (c = 0 /\ ¬ Pr 4 xs)))))))
theorem zAi {xs:List OpR} {c c':Int} (h:zO xs c) (h':zO xs c'):c = c':=by
 unfold zO at h h'
 by_cases a:500 < xs.length
 ·have a':¬ xs.length <= 500:=by omega
  simp only [a,a',and_true,false_and,or_false] at h h'
  omega
 ·have a':xs.length <= 500:=by omega
  by_cases b:zAD xs xs.length
  ·by_cases p3:Pr 3 xs
   ·simp only [a,a',b,p3,and_true,and_false,true_and,false_and,or_false,false_or,not_true] at h h'
    omega
   ·by_cases p4:Pr 4 xs
    ·simp only [a,a',b,p3,p4,and_true,and_false,true_and,or_false,false_or,not_true,not_false_iff] at h h'
     omega
    ·simp only [a,a',b,p3,p4,and_true,and_false,true_and,false_or,not_true,not_false_iff] at h h'
     omega
  ·simp only [a,a',b,and_true,and_false,true_and,false_and,or_false,false_or,not_false_iff] at h h'
   omega
structure Bx (w:World) (b off cap:Nat) (xs:List OpR) (wr:World):Prop where
 box:wr.cell? ⟨w.heap.size,0,none⟩ = some (.slice (some ⟨b,off,none⟩) xs.length cap)
 ops:Ops wr b off xs
 lt:w.heap.size < wr.heap.size
 blt:b < wr.heap.size
 bel:Below w.heap.size w wr
theorem Bx.step {w:World} {b off cap:Nat} {xs:List OpR} {wr w':World} (h:Bx w b off cap xs wr) (hb:Below wr.heap.size wr w'):Bx w b off cap xs w':=
 ⟨(hb.cell (p:=⟨_,_,none⟩) h.lt).trans h.box,h.ops.below hb h.blt,Nat.lt_of_lt_of_le h.lt hb.size,Nat.lt_of_lt_of_le h.blt hb.size,h.bel.trans (hb.mono (Nat.le_of_lt h.lt))⟩
theorem Bx.drew {w:World} {b off cap:Nat} {xs:List OpR} {wr:World} (h:Bx w b off cap xs wr):Bx w b off cap xs wr.drew:=
 h.step (Below.refl _ _).drew
theorem Bx.start {w:World} {b off cap:Nat} {xs:List OpR} (h:Ops w b off xs) (hB:b < w.heap.size) (t:TypeId):Bx w b off cap xs (w.alloc (.cells #[.slice (some ⟨b,off,none⟩) xs.length cap] t)):=
 ⟨by simp [go_sem],h.below (zC _ _) hB,by simp,by simp; omega,zC _ _⟩
end Go.Proofs.YtfboipappaonhaaGreat
