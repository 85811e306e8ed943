import Derived.BigQuiet
import Derived.Deep.AppendLies
import Derived.Deep.DeepCutAuto
import Derived.Deep.QuietTactic
import Derived.Deep.RegionHeld3
import Derived.Deep.RegionLaw
import Derived.Laws.Bits64b
import Derived.Laws.CopyRow
import Derived.Laws.MakeOwn
import Derived.Laws.OwnMore
import Derived.Lib.Mul64
import Derived.Maps.AppendAt
import Derived.OpenShut
import Derived.ProofKit
import Derived.Test.YtgfdimkbfnpepaaGreatRows
import Derived.WalkKit
abbrev Go.Value.i (n:Int):Go.Value:=.int .i64 n
abbrev Go.Value.n0:Go.Value:=.slice none 0 0
abbrev Go.Value.o(g n c:Nat):Go.Value:=.slice (some ⟨g,0,none⟩) n c
abbrev Go.Value.po(g:Nat):Go.Value:=.pointer (some ⟨g,0,none⟩)
namespace Go.Proofs.YtgfdimkbfnpepaaGreat
set_option linter.all false
open Go.Proofs.Tryz
theorem od{p:Prop}(h:p:=by omega):p:=h
theorem ot{p:Prop}(h:p:=by simp):p:=h
theorem ov{p:Prop}(h:p:=by decide):p:=h
theorem oA{p:Prop}(h:p:=by kernel_rfl):p:=h
theorem oB{p:Prop}(h:p:=by simp;omega):p:=h
theorem oE{p:Prop}(h:p:=by simp_all [okTs,okT,bD]):p:=h
theorem oR{p:Prop}(h:p:=by simp only[Ty.size,tysizes] at *;omega):p:=h
theorem oS{p:Prop}(h:p:=by assumption):p:=h
theorem oT{p:Prop}(h:p:=by simp[Value.ownBlock]):p:=h
theorem oX{p:Prop}(h:p:=by unfold Addr.add;split<;>simp_all):p:=h
theorem oY{p:Prop}(h:p:=by simp[aW,Va.size,vsizes,tysizes,sizes]):p:=h
theorem Of{p:Prop}(h:p:=by simp[mkV,noneV,Va.size,vsizes,tysizes,sizes]):p:=h
theorem Ok{p:Prop}(h:p:=by unfold bD;decide):p:=h
theorem On{p:Prop}(h:p:=by unfold maxLen;omega):p:=h
theorem OF{p:Prop}(h:p:=by simp[go_sem]):p:=h
theorem OK{p:Prop}(h:p:=by unfold Lf.fD;rw[if_neg (by decide),if_neg (by omega),if_neg (by simp[Lf.qM];rfl),if_neg (by omega),if_neg (by decide)]):p:=h
theorem ON{p:Prop}(h:p:=by rw[qY];simp;omega):p:=h
theorem OR{p:Prop}(h:p:=by simp only[jn];omega):p:=h
theorem OS{p:Prop}(h:p:=by go_num):p:=h
theorem Zs{p:Prop}(h:p:=by simp[results,Tryz.results187,go_sem,bY]):p:=h
theorem ZD{p:Prop}(h:p:=by simp[maxLen]):p:=h
theorem ZS{p:Prop}(h:p:=by unfold bT;rw[if_neg (by omega),if_neg (by omega)]):p:=h
theorem Xs{p:Prop}(h:p:=by simp[aW,aZ,Va.size,vsizes,tysizes,sizes]):p:=h
theorem XS{p:Prop}(h:p:=by simp[vasD_map]):p:=h
theorem Kd{p:Prop}(h:p:=by split<;>simp[mkV,aV,noneV,aW,Va.size,vsizes,tysizes,sizes]):p:=h
theorem Kf{p:Prop}(h:p:=by rw[Hf];simp;omega):p:=h
theorem Ks{p:Prop}(h:p:=by rw[qY];omega):p:=h
theorem Kx{p:Prop}(h:p:=by simp[results,Tryz.results52,go_sem]):p:=h
theorem KK{p:Prop}(h:p:=by rw[eQ];simp):p:=h
theorem Ys{p:Prop}(h:p:=by simp[dI,sFq,bB,Ty.t]):p:=h
theorem Up{p:Prop}(h:p:=by simp only[qT,jn,xF];omega):p:=h
theorem UP{p:Prop}(h:p:=by rw[qc0];omega):p:=h
theorem US{p:Prop}(h:p:=by simp only[xF];unfold maxLen;omega):p:=h
theorem vc{p:Prop}(h:p:=by simp[Act.eval,Act.put]):p:=h
theorem vf{p:Prop}(h:p:=by simp<;>omega):p:=h
theorem vh{p:Prop}(h:p:=by show 0<=m.paid;omega):p:=h
theorem vi{p:Prop}(h:p:=by unfold bD;omega):p:=h
theorem vj{p:Prop}(h:p:=by simp[Ty.t]):p:=h
theorem vl{p:Prop}(h:p:=by simp[X.keys]):p:=h
theorem vm{p:Prop}(h:p:=by simp only;omega):p:=h
theorem vn{p:Prop}(h:p:=by rw[eY];simp;omega):p:=h
theorem vp{p:Prop}(h:p:=by rw[nC];simp;omega):p:=h
theorem vq{p:Prop}(h:p:=by rw[qa1];omega):p:=h
theorem vu{p:Prop}(h:p:=by decide +kernel):p:=h
theorem vx{p:Prop}(h:p:=by split<;>omega):p:=h
theorem vy{p:Prop}(h:p:=by simp[kE];omega):p:=h
theorem oa{c:Prop}[Decidable c]{α:Type _}{a b:α}(h:¬c:=by omega):ite c a b=b:=if_neg h
theorem oc{c:Prop}[Decidable c]{α:Type _}{a b:α}(h:c:=by omega):ite c a b=a:=if_pos h
abbrev cm:=@Go.World.grownBy
abbrev bj:=Option Addr
abbrev bk:=List Value
abbrev bo:=ByteArray
abbrev br:=Nat->Prop
abbrev bt:=Nat->Value
abbrev bw:=List UInt8
abbrev bx:=World
abbrev cg:=Value
open Go.ChangeShapes Go.WideShapes Go.ChangeAt Go.RowKit
def we{d e p2:Prop}(a:d)(b:e)(c:p2):Hid d/\Hid e/\Hid p2:=⟨a,b,c⟩
def JT{e f p2 g:Prop}(a:e)(b:f)(c:p2)(d:g):Hid e/\Hid f/\Hid p2/\Hid g:=⟨a,b,c,d⟩
def wg{f g p2 h i:Prop}(a:f)(b:g)(c:p2)(d:h)(e:i):Hid f/\Hid g/\Hid p2/\Hid h/\Hid i:=⟨a,b,c,d,e⟩
def wk{g h p2 i j k:Prop}(a:g)(b:h)(c:p2)(d:i)(e:j)(f:k):Hid g/\Hid h/\Hid p2/\Hid i/\Hid j/\Hid k:=⟨a,b,c,d,e,f⟩
def wi{h i p2 j k l m:Prop}(a:h)(b:i)(c:p2)(d:j)(e:k)(f:l)(g:m):Hid h/\Hid i/\Hid p2/\Hid j/\Hid k/\Hid l/\Hid m:=⟨a,b,c,d,e,f,g⟩
def wj{i j p2 k l m n o:Prop}(a:i)(b:j)(c:p2)(d:k)(e:l)(f:m)(g:n)(h:o):Hid i/\Hid j/\Hid p2/\Hid k/\Hid l/\Hid m/\Hid n/\Hid o:=⟨a,b,c,d,e,f,g,h⟩
def wq{j k p2 l m n o p p8:Prop}(a:j)(b:k)(c:p2)(d:l)(e:m)(f:n)(g:o)(h:p)(i:p8):Hid j/\Hid k/\Hid p2/\Hid l/\Hid m/\Hid n/\Hid o/\Hid p/\Hid p8:=⟨a,b,c,d,e,f,g,h,i⟩
abbrev qk:=@Option.some.injEq
abbrev qn:=@List.getElem?_eq_getElem
abbrev qq:=@Array.getElem?_eq_some_iff
abbrev qt:=@Go.World.cell?_of_block
abbrev qu:=@Bool.and_eq_true
abbrev qv:=@List.getElem?_eq_some_iff
abbrev qS:=@Nat.le_refl
abbrev qT:=@List.length_append
abbrev jj:=@Go.heap_alloc_new
abbrev jn:=@List.length_cons
abbrev js:=@List.getElem?_append_right
abbrev jt:=@List.eq_nil_of_length_eq_zero
abbrev ju:=@List.getElem?_append_left
abbrev jx:=@List.mem_singleton
abbrev jz:=@Option.map_eq_some_iff
abbrev kd:=@Go.AllReadyH.cons
abbrev ke:=@Prod.mk.injEq
abbrev kh:=@Nat.lt_of_lt_of_le
abbrev ki:=@decide_eq_true_eq
abbrev kj:=@Go.Value.slice.injEq
abbrev kl:=@Nat.le_trans
abbrev km:=@Go.AllReadyH.nil
abbrev kp:=@List.getElem?_cons_zero
abbrev kA:=@List.getElem_mem
abbrev kB:=@List.all_eq_true
abbrev kO:=@Go.wpAnyH_ready
abbrev zc:=@List.setIfInBounds_toArray
abbrev zd:=@Go.World.ownsRow.lt
abbrev zj:=@List.mem_cons
abbrev zp:=@List.mem_append
abbrev zr:=@Go.World.block_lt_of_cell?
abbrev zv:=@Nat.zero_le
abbrev zE:=@List.mem_of_getElem?
abbrev xb:=@List.all_cons
abbrev xf:=@List.set_cons_succ
abbrev xj:=@List.set_cons_zero
abbrev xo:=@List.cons.injEq
abbrev xF:=@List.length_nil
abbrev xT:=@Go.bodyPost_ret
abbrev yb:=@Array.getD_eq_getD_getElem?
abbrev yd:=@Go.World.ownsRow.kept
abbrev ye:=@Go.World.size_alloc
abbrev yi:=@List.getElem?_cons_succ
abbrev yq:=@List.getElem_of_mem
abbrev yv:=@List.mem_map
abbrev yy:=@List.append_assoc
abbrev yW:=@Go.World.ownsRow.alloc
abbrev ub:=@Array.getElem?_modify
abbrev ud:=@List.length_reverse
abbrev ue:=@List.length_singleton
abbrev ur:=@Go.lt_of_block
abbrev ux:=@Option.isNone_iff_eq_none
abbrev qa0:=@List.drop_eq_getElem_cons
abbrev qa1:=@beq_eq_false_iff_ne
abbrev qa2:=@Go.Sem.run_bind
abbrev qa3:=@Go.World.ownsRow.cells
abbrev qa4:=@Nat.zero_add
abbrev qa5:=@List.take_succ_eq_append_getElem
abbrev qa6:=@Array.getElem?_eq_getElem
abbrev qa7:=@List.getElem?_take
abbrev qb0:=@List.map_append
abbrev qb1:=@List.getElem?_map
abbrev qb2:=@List.take_of_length_le
abbrev qb3:=@List.mem_flatMap
abbrev qb4:=@List.cons_append
abbrev qb5:=@Go.run_underlying
abbrev qb6:=@List.map_cons
abbrev qb7:=@List.reverse_cons
abbrev qc0:=@List.length_take
abbrev qc1:=@Go.IntKind.wrap_i64
abbrev qc2:=@List.append_nil
abbrev qc3:=@List.nodup_append
abbrev qc4:=@Go.Addr.mk.injEq
abbrev qc5:=@Go.heap_alloc_old
abbrev qc6:=@List.flatMap_cons
abbrev qc7:=@decide_eq_false
abbrev qd0:=@List.nil_append
abbrev qd1:=@Bool.or_eq_true
abbrev qd2:=@Bool.eq_iff_iff
abbrev qd3:=@List.take_append_drop
abbrev qd4:=@Go.Value.agg.injEq
abbrev qd5:=@Nat.add_zero
abbrev qd6:=@List.eq_of_mem_replicate
abbrev qd7:=@List.mem_of_mem_take
abbrev qe0:=@List.getElem?_set_ne
abbrev qe1:=@List.not_mem_nil
abbrev qe2:=@List.all_append
abbrev qe3:=@Go.Calls.quiet_of_same
abbrev qe4:=@Array.mk.injEq
abbrev qe5:=@Go.cell_of_one
abbrev qe6:=@Nat.add_assoc
abbrev qe7:=@List.length_map
abbrev qf0:=@Go.wpAnyH_done
abbrev qf1:=@Option.bind_eq_some_iff
abbrev qf2:=@Array.getElem?_setIfInBounds_self_of_lt
abbrev qf3:=@List.dropLast_concat_getLast
abbrev qf4:=@Go.World.ownsRow_nil
abbrev qf5:=@Go.World.cells?_some
abbrev qf6:=@List.getElem?_of_mem
abbrev qf7:=@Option.isSome_iff_exists
abbrev qg0:=@Array.getElem?_toList
abbrev qg1:=@List.reverse_append
abbrev qg2:=@Option.map_some
abbrev qg3:=@decide_eq_false_iff_not
abbrev qg4:=@List.take_length
abbrev qg5:=@List.length_eq_zero_iff
abbrev qg6:=@Nat.mul_le_mul_right
abbrev qg7:=@List.mem_of_mem_drop
abbrev qh0:=@List.getElem?_set_self
abbrev qh1:=@decide_eq_true
abbrev qh2:=@Array.length_toList
abbrev qh3:=@of_decide_eq_true
abbrev qh4:=@Bool.not_eq_true'
abbrev qh5:=@Go.info_parts
abbrev qh6:=@Nat.add_mul
abbrev qh7:=@List.map_singleton
abbrev ja0:=@List.getElem?_drop
abbrev ja1:=@Go.DataW.trod_int
abbrev ja2:=@Bool.false_eq_true
abbrev ja3:=@List.any_eq_true
abbrev ja4:=@Go.wp_region_held_drew
abbrev ja5:=@Go.World.news_of_block
abbrev ja6:=@List.take_append_of_le_length
abbrev ja7:=@List.singleton_append
abbrev jb0:=@Bool.true_and
abbrev jb1:=@List.map_nil
abbrev jb2:=@Option.getD_some
abbrev jb3:=@List.mem_append_left
abbrev jb4:=@Nat.zero_mul
abbrev jb5:=@Nat.mul_comm
abbrev jb6:=@List.getElem_cons_zero
abbrev jb7:=@List.drop_eq_nil_of_le
abbrev jc0:=@Array.all_eq_true_iff_forall_mem
abbrev jc1:=@Go.ByteArray.toList_eq
abbrev jc2:=@List.getElem?_eq_none
abbrev jc3:=@Go.DataW.trod_struct
abbrev jc4:=@Go.trodAll_cons_mk
abbrev jc5:=@Go.Value.int.injEq
abbrev jc6:=@Nat.min_eq_left
abbrev jc7:=@List.mem_filter
abbrev jd0:=@List.length_pos_iff
abbrev jd1:=@Go.World.ownsRow.frozenAt
abbrev jd2:=@Go.World.frozen?_of_block
abbrev jd3:=@Go.Sem.run_pure
abbrev jd4:=@List.length_eq_one_iff
abbrev jd5:=@List.drop_of_length_le
abbrev jd6:=@ByteArray.data_extract
abbrev jd7:=@Nat.mod_eq_of_lt
abbrev je0:=@Go.wp_loop_rounds
abbrev je1:=@Go.wpList_append_lies
abbrev je2:=@Nat.lt_of_le_of_lt
abbrev je3:=@List.mapM_cons
abbrev je4:=@List.drop_zero
abbrev je5:=@List.set_append_right
abbrev je6:=@Classical.byContradiction
abbrev je7:=@List.length_set
abbrev jf0:=@Go.free_of_one
abbrev jf1:=@Go.World.cell?_alloc_lt
abbrev jf2:=@Nat.lt_or_ge
abbrev jf3:=@List.size_toArray
abbrev jf4:=@List.reverse_reverse
abbrev jf5:=@List.mem_cons_of_mem
abbrev jf6:=@Nat.lt_irrefl
abbrev jf7:=@Array.getElem?_setIfInBounds_ne
abbrev jg0:=@Go.World.grownBy_alloc
abbrev jg1:=@Go.World.cell?_spot
abbrev jg2:=@Nat.and_two_pow_sub_one_eq_mod
abbrev jg3:=@List.take_take
abbrev jg4:=@Array.getElem?_eq_none
abbrev jg5:=@Option.some.inj
abbrev jg6:=@List.range_succ
abbrev jg7:=@Except.ok.injEq
abbrev jh0:=@Go.ownsRow_setCell_other
abbrev jh1:=@List.mem_append_right
abbrev jh2:=@List.eq_nil_or_concat
abbrev jh3:=@List.concat_eq_append
abbrev jh4:=@Go.rounds_succ
abbrev jh5:=@Go.one_setCell
abbrev jh6:=@Array.replicate_zero
abbrev jh7:=@Array.replicate_succ
abbrev ka0:=@Go.ChangeShapes.trodAll_cons
abbrev ka1:=@List.length_drop
abbrev ka2:=@List.all_nil
abbrev ka3:=@List.sum_cons
abbrev ka4:=@Nat.le_succ
